/- A device in a variable (DV): kept, read, overwritten; the law file's lives. -/
import Derived.Test.YtjkapmghifglcaaDoorDvY
namespace Go.Proofs.YtjkapmghifglcaaDoor.Dv
set_option linter.unusedVariables false
open Go.ChangeShapes Go.WideShapes Go.ChangeAt Go.RowKit
open Ar Rg St
open BigFrame
/-- a row that has a device is no part of a list of blocks -/
theorem SlB.setRow {w : World} {A : Option Addr} {n c : Nat} {D : List Bk} (h : SlB w A n c D) {b N : Nat} {A1 A2 : Option Addr} {n1 c1 n2 c2 : Nat} {dn : Bool} {fu : Int} {t : TypeId} (hr : w.heap[b]? = some (.cells (devC N (.slice A1 n1 c1) (.slice A2 n2 c2) dn fu) t (0, 0))) (cs : Array Value) : SlB (w.setRow b cs) A n c D := by
  obtain ⟨h1, h2, h3, B, hB, hL⟩ := h
  refine ⟨h1, h2, h3, B, by simp [World.setRow]; exact hB, fun i x hx => ?_⟩
  obtain ⟨g, o, hA, hg, hc⟩ := hL i x hx
  refine ⟨g, o, hA, hg, ?_⟩
  have c0 : w.cell? ⟨g, o + i * 2, none⟩ = some (.int .u32 x.n) := hc 0 _ rfl
  have c1 : w.cell? ⟨g, o + i * 2 + 1, none⟩ = some (.string x.d) := hc 1 _ rfl
  have hne : g ≠ b := by
    intro e
    subst e
    rw [cell_of_row _ _ _ _ _ _ hr] at c0 c1
    generalize o + i * 2 = q at c0 c1
    match q with
    | 0 => simp at c1
    | 1 => simp at c0
    | 2 => simp at c0
    | 3 => simp at c0
    | 4 => simp at c0
    | q + 5 => simp at c0
  intro j v hv
  exact (World.cell?_of_block (a := ⟨g, o + i * 2 + j, none⟩) ((grown_setRow w b cs).block g (World.block_lt_of_cell? w _ c0) (fun e => hne (by cases e; rfl)))).trans (hc j v hv)
/-- the variable in block b has the device x -/
structure DV (w : World) (b : Nat) (A : Option Addr) (n c : Nat) (A' : Option Addr) (m c' : Nat) (x : De) : Prop where
  row : w.heap[b]? = some (.cells (devC x.N (.slice A n c) (.slice A' m c') x.dn x.fu) 25 (0, 0))
  one : SlB w A n c x.D
  two : SlB w A' m c' x.W
  ln : n ≤ 281474976710656
  lm : m ≤ 281474976710656
  lo : -9223372036854775808 ≤ x.fu
  hi : x.fu ≤ 9223372036854775807
variable {w w' : World} {b n c m c' : Nat} {A A' : Option Addr} {x : De}
theorem heap_lt {w : World} {b : Nat} {o : Obj} (h : w.heap[b]? = some o) : b < w.heap.size := by
  rcases Nat.lt_or_ge b w.heap.size with hl | hg
  · exact hl
  · rw [Array.getElem?_eq_none hg] at h; cases h
theorem DV.lt (h : DV w b A n c A' m c' x) : b < w.heap.size := heap_lt h.row
theorem DV.below (h : DV w b A n c A' m c' x) (hb : Below w.heap.size w w') : DV w' b A n c A' m c' x := ⟨below_row h.row hb h.lt, h.one.below hb, h.two.below hb, h.ln, h.lm, h.lo, h.hi⟩
theorem DV.box (h : DV w b A n c A' m c' x) : Box w b x.N (.slice A n c) (.slice A' m c') x.dn x.fu := row_dev h.row
theorem DV.at_ (h : DV w b A n c A' m c' x) : DevAt w (devV x.N (.slice A n c) (.slice A' m c') x.dn x.fu) x := ⟨A, n, c, A', m, c', rfl, h.one, h.two, h.ln, h.lm, h.lo, h.hi⟩
/-- what is put into a new variable -/
theorem DV.new (h1 : SlB w A n c x.D) (h2 : SlB w A' m c' x.W) (ln : n ≤ 281474976710656) (lm : m ≤ 281474976710656) (lo : -9223372036854775808 ≤ x.fu) (hi : x.fu ≤ 9223372036854775807) :
    DV ((w.alloc (.cells zAt 25)).setRow w.heap.size (devC x.N (.slice A n c) (.slice A' m c') x.dn x.fu)) w.heap.size A n c A' m c' x ∧ Below w.heap.size w ((w.alloc (.cells zAt 25)).setRow w.heap.size (devC x.N (.slice A n c) (.slice A' m c') x.dn x.fu)) := by
  have hb : Below w.heap.size w ((w.alloc (.cells zAt 25)).setRow w.heap.size (devC x.N (.slice A n c) (.slice A' m c') x.dn x.fu)) := below_setRow ((Below.refl w.heap.size w).alloc (Nat.le_refl _) _) (Nat.le_refl _) _
  exact ⟨⟨setRow_heap' (heap_alloc_new w (.cells zAt 25)), h1.below hb, h2.below hb, ln, lm, lo, hi⟩, hb⟩
/-- a variable that is boxed -/
theorem DV.boxed (h1 : SlB w A n c x.D) (h2 : SlB w A' m c' x.W) (ln : n ≤ 281474976710656) (lm : m ≤ 281474976710656) (lo : -9223372036854775808 ≤ x.fu) (hi : x.fu ≤ 9223372036854775807) :
    DV (w.alloc (.cells (devC x.N (.slice A n c) (.slice A' m c') x.dn x.fu) 25)) w.heap.size A n c A' m c' x ∧ Below w.heap.size w (w.alloc (.cells (devC x.N (.slice A n c) (.slice A' m c') x.dn x.fu) 25)) := by
  have hb : Below w.heap.size w (w.alloc (.cells (devC x.N (.slice A n c) (.slice A' m c') x.dn x.fu) 25)) := (Below.refl w.heap.size w).alloc (Nat.le_refl _) _
  exact ⟨⟨heap_alloc_new w _, h1.below hb, h2.below hb, ln, lm, lo, hi⟩, hb⟩
/-- what is put over what a variable has -/
theorem DV.put {A1 A2 : Option Addr} {n1 c1 n2 c2 : Nat} {y : De} (h : DV w b A n c A' m c' x) (h1 : SlB w A1 n1 c1 y.D) (h2 : SlB w A2 n2 c2 y.W) (ln : n1 ≤ 281474976710656) (lm : n2 ≤ 281474976710656) (lo : -9223372036854775808 ≤ y.fu) (hi : y.fu ≤ 9223372036854775807) :
    DV (w.setRow b (devC y.N (.slice A1 n1 c1) (.slice A2 n2 c2) y.dn y.fu)) b A1 n1 c1 A2 n2 c2 y :=
  ⟨setRow_heap' h.row, h1.setRow h.row _, h2.setRow h.row _, ln, lm, lo, hi⟩
/-- another variable, beside one that is put over -/
theorem DV.beside {A1 A2 : Option Addr} {n1 c1 n2 c2 g : Nat} {y : De} (h : DV w b A n c A' m c' x) (k : DV w g A1 n1 c1 A2 n2 c2 y) (hne : b ≠ g) (cs : Array Value) : DV (w.setRow g cs) b A n c A' m c' x :=
  ⟨((grown_setRow w g cs).block b h.lt (fun e => hne (by cases e; rfl))).trans h.row, h.one.setRow k.row _, h.two.setRow k.row _, h.ln, h.lm, h.lo, h.hi⟩
def L0 : De := ⟨16, [], [], false, -1⟩
def L1 : De := ⟨16, [], [⟨3, ⟨#[97]⟩⟩], false, -1⟩
def L2 : De := ⟨16, [⟨3, ⟨#[97]⟩⟩], [], false, -1⟩
def L3 : De := ⟨16, [⟨3, ⟨#[97]⟩⟩], [⟨3, ⟨#[98]⟩⟩], false, -1⟩
def L4 : De := ⟨16, [⟨3, ⟨#[97]⟩⟩], [⟨3, ⟨#[98]⟩⟩, ⟨4, ⟨#[99]⟩⟩], false, -1⟩
def L5 : De := ⟨16, [⟨3, ⟨#[97]⟩⟩, ⟨4, ⟨#[99]⟩⟩], [], false, -1⟩
theorem l1 : wrX L0 3 ⟨#[97, 0]⟩ = L1 := by kernel_rfl
theorem l2 : flX L1 = L2 := by kernel_rfl
theorem l3 : wrX L2 3 ⟨#[98]⟩ = L3 := by kernel_rfl
theorem l4 : wrX L3 4 ⟨#[99]⟩ = L4 := by kernel_rfl
theorem l5 : crX L4 (kp [false, true]) = L5 := by kernel_rfl
theorem o1 : wrO L0 3 ⟨#[97, 0]⟩ = 0 := by kernel_rfl
theorem o2 : flO L1 = 0 := by kernel_rfl
theorem o3 : wrO L2 3 ⟨#[98]⟩ = 0 := by kernel_rfl
theorem o4 : wrO L3 4 ⟨#[99]⟩ = 0 := by kernel_rfl
theorem o5 : rdO L4 3 = 0 := by kernel_rfl
theorem o6 : chO L4 = 0 := by kernel_rfl
theorem o7 : rdO L5 3 = 0 := by kernel_rfl
theorem o8 : rdO L5 4 = 0 := by kernel_rfl
theorem o9 : wrO L5 16 ⟨#[120]⟩ = 1 := by kernel_rfl
theorem s5 : rdX L4 3 = ⟨#[98]⟩ := by kernel_rfl
theorem s7 : rdX L5 3 = ⟨#[97]⟩ := by kernel_rfl
theorem s8 : rdX L5 4 = ⟨#[99]⟩ := by kernel_rfl
end Go.Proofs.YtjkapmghifglcaaDoor.Dv
