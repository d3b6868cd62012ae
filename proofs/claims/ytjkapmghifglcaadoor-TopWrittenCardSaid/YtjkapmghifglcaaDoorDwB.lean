/- What the calls of package dev answer (Ret); a store into a new variable, and over one; the contracts, by variables. -/
import Derived.Test.YtjkapmghifglcaaDoorDwA
namespace Go.Proofs.YtjkapmghifglcaaDoor.Dv
set_option linter.unusedVariables false
open Go.ChangeShapes Go.WideShapes Go.ChangeAt Go.RowKit
open Ar Rg St
open BigFrame
/-- a device and an error are answered -/
def Ret (y : De) (o : Int) (w : World) (e : Ending) (w' : World) : Prop :=
  ∃ A n c A' m c', e = .returned (.tuple #[.agg #[.int .u32 y.N, .slice A n c, .slice A' m c', .bool y.dn, .int .i64 y.fu], .int .i64 o]) ∧ SlB w' A n c y.D ∧ SlB w' A' m c' y.W ∧ n ≤ 281474976710656 ∧ m ≤ 281474976710656 ∧ -9223372036854775808 ≤ y.fu ∧ y.fu ≤ 9223372036854775807 ∧ Below w.heap.size w w'
theorem Ret.of {y : De} {o : Int} {w w' : World} {e : Ending} (h : ∃ v', e = .returned (.tuple #[v', .int .i64 o]) ∧ DevAt w' v' y ∧ Below w.heap.size w w') : Ret y o w e w' := by
  obtain ⟨v', he, ⟨A, n, c, A', m, c', rfl, h1, h2, h3, h4, h5, h6⟩, hb⟩ := h
  exact ⟨A, n, c, A', m, c', he, h1, h2, h3, h4, h5, h6, hb⟩
variable {w w' : World} {b n c m c' : Nat} {A A' : Option Addr} {x : De}
theorem writeS (num : Nat) (s : ByteArray) (hs : s.size ≤ 9223372036854775807) (h : DV w b A n c A' m c' x) :
    Calls Tryd.prog 14 #[.agg #[.int .u32 x.N, .slice A n c, .slice A' m c', .bool x.dn, .int .i64 x.fu], .int .u32 num, .string s] w (Ret (wrX x num s) (wrO x num s) w) := (write_any x num s _ w hs h.at_).mono fun _ _ h => Ret.of h
theorem flushS (h : DV w b A n c A' m c' x) :
    Calls Tryd.prog 16 #[.agg #[.int .u32 x.N, .slice A n c, .slice A' m c', .bool x.dn, .int .i64 x.fu]] w (Ret (flX x) (flO x) w) := (flush_any x _ w h.at_).mono fun _ _ h => Ret.of h
theorem crashS (K : List Bool) {AK : Option Addr} {nk ck : Nat} (hK : SlK w AK nk K) (h : DV w b A n c A' m c' x) :
    Calls Tryd.prog 24 #[.agg #[.int .u32 x.N, .slice A n c, .slice A' m c', .bool x.dn, .int .i64 x.fu], .slice AK nk ck] w (Ret (crX x (kp K)) (chO x) w) := (crash_any x K AK nk ck _ w h.at_ hK).mono fun _ _ h => Ret.of h
theorem spoilS (num : Nat) (s : ByteArray) (hs : s.size ≤ 9223372036854775807) (h : DV w b A n c A' m c' x) :
    Calls Tryd.prog 26 #[.agg #[.int .u32 x.N, .slice A n c, .slice A' m c', .bool x.dn, .int .i64 x.fu], .int .u32 num, .string s] w (Ret (spX x num s) (spO x num s) w) := (spoil_any x num s _ w hs h.at_).mono fun _ _ h => Ret.of h
theorem readS (num : Nat) (h : DV w b A n c A' m c' x) :
    Calls Tryd.prog 18 #[.agg #[.int .u32 x.N, .slice A n c, .slice A' m c', .bool x.dn, .int .i64 x.fu], .int .u32 num] w fun e w' => e = .returned (.tuple #[.string (rdX x num), .int .i64 (rdO x num)]) ∧ Below w.heap.size w w' := devRead_any x num _ w h.at_
theorem checkS (h : DV w b A n c A' m c' x) :
    Calls Tryd.prog 22 #[.agg #[.int .u32 x.N, .slice A n c, .slice A' m c', .bool x.dn, .int .i64 x.fu]] w fun e w' => e = .returned (.int .i64 (chO x)) ∧ Below w.heap.size w w' := check_any x _ w h.at_
theorem sameS {b2 n2 c2 m2 c2' : Nat} {A2 A2' : Option Addr} (h : DV w b A n c A' m c' x) (k : DV w b2 A2 n2 c2 A2' m2 c2' x) :
    Calls Tryd.prog 21 #[.agg #[.int .u32 x.N, .slice A n c, .slice A' m c', .bool x.dn, .int .i64 x.fu], .agg #[.int .u32 x.N, .slice A2 n2 c2, .slice A2' m2 c2', .bool x.dn, .int .i64 x.fu]] w fun e w' => e = .returned (.bool true) ∧ Below w.heap.size w w' := same_true x _ _ w h.at_ k.at_
variable {ops : Array Oper} {rest : List Oper} {o : Oper} {a : Act} {Q : Exit → Act → World → Prop}
/-- a store into a new variable -/
theorem wpList_new (p v : Tmp) (hgd : o.guard = none) (ho : o.op = .store 25 (.tmp p) (.tmp v)) (hx : a.eval (.tmp p) = .pointer (some ⟨w.heap.size, 0, none⟩)) (hy : a.eval (.tmp v) = .agg (devC x.N (.slice A n c) (.slice A' m c') x.dn x.fu))
    (h1 : SlB w A n c x.D) (h2 : SlB w A' m c' x.W) (ln : n ≤ 281474976710656) (lm : m ≤ 281474976710656) (lo : -9223372036854775808 ≤ x.fu) (hi : x.fu ≤ 9223372036854775807)
    (h : ∀ w', Below w.heap.size w w' → DV w' w.heap.size A n c A' m c' x → wpList Tryd.prog ops Q rest (a.put o.dst undef) w') : wpList Tryd.prog ops Q (o :: rest) a (w.alloc (.cells zAt 25)) := by
  obtain ⟨k1, k2⟩ := DV.new h1 h2 ln lm lo hi
  exact wpList_store_row hgd 25 (.tmp p) (.tmp v) ho w.heap.size _ hx hy 25 zAt (heap_alloc_new w _) (by kernel_rfl) rfl (dev_one _ _ _ _ _ _ _ _ _) (h _ k2 k1)
/-- the variable in block b has been put over -/
def Ov (w w' : World) (b : Nat) : Prop := ∃ cs, w' = w.setRow b cs
theorem DV.over {A1 A2 : Option Addr} {n1 c1 n2 c2 g : Nat} {y : De} (h : DV w b A n c A' m c' x) (k : DV w g A1 n1 c1 A2 n2 c2 y) (hne : b ≠ g) (ho : Ov w w' g) : DV w' b A n c A' m c' x := by
  obtain ⟨cs, rfl⟩ := ho
  exact h.beside k hne cs
theorem below_over {B : Nat} {w0 : World} (h : Below B w0 w) (hB : B ≤ b) (ho : Ov w w' b) : Below B w0 w' := by
  obtain ⟨cs, rfl⟩ := ho
  exact below_setRow h hB cs
/-- a store over a variable -/
theorem wpList_over {A1 A2 : Option Addr} {n1 c1 n2 c2 : Nat} {y : De} (k : DV w b A1 n1 c1 A2 n2 c2 y) (p v : Tmp) (hgd : o.guard = none) (ho : o.op = .store 25 (.tmp p) (.tmp v)) (hx : a.eval (.tmp p) = .pointer (some ⟨b, 0, none⟩)) (hy : a.eval (.tmp v) = .agg (devC x.N (.slice A n c) (.slice A' m c') x.dn x.fu))
    (h1 : SlB w A n c x.D) (h2 : SlB w A' m c' x.W) (ln : n ≤ 281474976710656) (lm : m ≤ 281474976710656) (lo : -9223372036854775808 ≤ x.fu) (hi : x.fu ≤ 9223372036854775807)
    (h : ∀ w', Ov w w' b → DV w' b A n c A' m c' x → wpList Tryd.prog ops Q rest (a.put o.dst undef) w') : wpList Tryd.prog ops Q (o :: rest) a w :=
  wpList_store_row hgd 25 (.tmp p) (.tmp v) ho b _ hx hy 25 _ k.row (by kernel_rfl) rfl (dev_one _ _ _ _ _ _ _ _ _) (h _ ⟨_, rfl⟩ (k.put h1 h2 ln lm lo hi))
end Go.Proofs.YtjkapmghifglcaaDoor.Dv
