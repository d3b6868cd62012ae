/- A new row of two structs. No word of the program here. -/
import Derived.Test.YtlpejbbmemhloaaGreatDoorNdH
namespace Go.Proofs.YtlpejbbmemhloaaGreatDoor.Nd
set_option linter.unusedVariables false
open Go.ChangeShapes Go.WideShapes Go.ChangeAt Go.RowKit
theorem fold_suf : ∀ (vs zs pre suf : List Value) (p k : Nat), zs.length = vs.length → pre.length = p + k → List.foldl (fun (cs : Array Value) (x : Value × Nat) => cs.setIfInBounds (p + x.snd) x.fst) (pre ++ (zs ++ suf)).toArray (vs.zipIdx k) = (pre ++ (vs ++ suf)).toArray
  | [], [], pre, suf, p, k, _, _ => rfl
  | [], z :: zs, pre, suf, p, k, h, _ => by cases h
  | v :: vs, [], pre, suf, p, k, h, _ => by cases h
  | v :: vs, z :: zs, pre, suf, p, k, h, hp => by
    rw [List.zipIdx_cons, List.foldl_cons]
    have e : (pre ++ (z :: zs ++ suf)).toArray.setIfInBounds (p + k) v = ((pre ++ [v]) ++ (zs ++ suf)).toArray := by
      rw [List.setIfInBounds_toArray, List.set_append_right _ _ (by omega), show p + k - pre.length = 0 by omega, List.cons_append, List.set_cons_zero, List.append_assoc]; rfl
    show List.foldl _ ((pre ++ (z :: zs ++ suf)).toArray.setIfInBounds (p + k) v) _ = _
    rw [e, fold_suf vs zs (pre ++ [v]) suf p (k + 1) (by simpa using h) (by rw [List.length_append, List.length_singleton]; omega), List.append_assoc]; rfl
theorem put_cells (Z c : Array Value) (p : Nat) (h : p + c.size ≤ Z.size) : c.zipIdx.foldl (fun (cs : Array Value) (x : Value × Nat) => cs.setIfInBounds (p + x.snd) x.fst) Z = (Z.toList.take p ++ (c.toList ++ Z.toList.drop (p + c.size))).toArray := by
  obtain ⟨l⟩ := c
  obtain ⟨zl⟩ := Z
  have hl : p + l.length ≤ zl.length := by simpa using h
  have e : zl = zl.take p ++ ((zl.drop p).take l.length ++ zl.drop (p + l.length)) := by
    rw [← List.drop_drop, List.take_append_drop, List.take_append_drop]
  have := fold_suf l ((zl.drop p).take l.length) (zl.take p) (zl.drop (p + l.length)) p 0 (by simp; omega) (by simp; omega)
  rw [← e] at this
  rw [← Array.foldl_toList]
  simp only [Array.toList_zipIdx]
  exact this
theorem fill2 (Z c1 c2 : Array Value) (h : Z.size = 2 * c1.size) (h2 : c2.size = c1.size) : Instr.fill (fun i => some (i * c1.size, c1.size)) Z [(0, .agg c1), (1, .agg c2)] = some (c1 ++ c2) := by
  rw [Instr.fill.eq_2]
  simp only [Nat.zero_mul, Value.cells]
  rw [if_neg (by simp [h]; try omega)]
  have e1 := put_cells Z c1 0 (by omega)
  rw [List.take_zero, List.nil_append, Nat.zero_add] at e1
  rw [e1]
  have hz : (c1.toList ++ Z.toList.drop c1.size).toArray.size = c1.size + c1.size := by simp; omega
  rw [Instr.fill.eq_2]
  simp only [Nat.one_mul, Value.cells]
  rw [if_neg (by intro hc; rcases (Bool.or_eq_true _ _).mp hc with hc | hc; exact (of_decide_eq_true hc) h2; have hc : c1.size + c2.size > (c1.toList ++ Z.toList.drop c1.size).toArray.size := of_decide_eq_true hc; omega), Instr.fill.eq_1, put_cells _ c2 c1.size (by rw [hz, h2]; exact Nat.le_refl _)]
  congr 1
  apply Array.toList_inj.1
  have hl : c1.toList.length = c1.size := Array.length_toList
  simp only [Array.toList_append]
  rw [List.take_append_of_le_length (by omega), List.take_of_length_le (by omega), List.drop_of_length_le (by rw [Array.length_toList, hz, h2]; exact Nat.le_refl _), List.append_nil]
variable {P : Program}
theorem run_slice2 (w : World) (S e : TypeId) (i : TypeInfo) (z : Value) (c1 c2 : Array Value) (hS : P.underlying S = some (.slice e)) (hi : P.info? e = some i) (hz : i.zero = some z) (hsz : i.size = c1.size) (h2 : c2.size = c1.size) (h0 : 0 < c1.size) (hm : 2 * c1.size ≤ 2 ^ 24) :
    (Instr.buildSlice S 2 #[(0, .agg c1), (1, .agg c2)]).run P w = .ok (.slice (some ⟨w.heap.size, 0, none⟩) 2 2) (w.alloc (.cells (c1 ++ c2) e)) := by
  have hu := run_underlying (P := P) hS w
  have hcs : P.cellsOf e = c1.size := by unfold Program.cellsOf; rw [hi]; exact hsz
  have hso := run_sizeOf (P := P) w hi
  rw [hcs] at hso
  unfold Instr.buildSlice
  rw [Sem.run_bind, hu, Result.andThen_ok]
  simp only []
  rw [Sem.run_bind, hso, Result.andThen_ok]
  rw [if_neg (by omega), if_neg (by omega)]
  have hz' : (zeroValue e).run P w = .ok z w := by simp [zeroValue, typeInfo, hi, hz]
  rw [Sem.run_bind, hz', Result.andThen_ok]
  simp only [pure_bind]
  rw [fill2 _ c1 c2 (by simp) h2]
  simp [newRow, newObj]
  rfl
variable {o : Oper} {a : Act} {K : Act → World → Prop} {Q : Exit → Act → World → Prop} {ops : Array Oper} {rest : List Oper}
theorem op_slice2 {w : World} (S e : TypeId) (x y : Operand) (i : TypeInfo) (z : Value) (c1 c2 : Array Value) (ho : o.op = .buildSlice S 2 #[(0, x), (1, y)]) (hx : a.eval x = .agg c1) (hy : a.eval y = .agg c2)
    (hS : P.underlying S = some (.slice e)) (hi : P.info? e = some i) (hz : i.zero = some z) (hsz : i.size = c1.size) (h2 : c2.size = c1.size) (h0 : 0 < c1.size) (hm : 2 * c1.size ≤ 2 ^ 24)
    (h : K (a.put o.dst (.slice (some ⟨w.heap.size, 0, none⟩) 2 2)) (w.alloc (.cells (c1 ++ c2) e))) : Oper.wp P o a w K Q := by
  unfold Oper.wp execOp
  simp only [ho, List.map_toArray, List.map_cons, List.map_nil, hx, hy, Sem.run_bind, Sem.run_pure, Result.andThen_ok, run_slice2 w S e i z c1 c2 hS hi hz hsz h2 h0 hm]
  exact h
theorem wpList_twoK {w : World} (hgd : o.guard = none) (x y : Operand) (j k : Kd) (ho : o.op = .buildSlice 28 2 #[(0, x), (1, y)]) (hx : a.eval x = .agg (ecK j).toArray) (hy : a.eval y = .agg (ecK k).toArray)
    (h : wpList Tryz.prog ops Q rest (a.put o.dst (.slice (some ⟨w.heap.size, 0, none⟩) 2 2)) (w.alloc (.cells ((ecK j).toArray ++ (ecK k).toArray) 45))) : wpList Tryz.prog ops Q (o :: rest) a w := by
  obtain ⟨i0, hi, hz0, hz1, hz2⟩ := info_parts infK
  have s1 : 34 = (ecK j).toArray.size := ecK_sz j
  have s2 : 34 = (ecK k).toArray.size := ecK_sz k
  exact wpList_plain hgd fun K hK => op_slice2 _ _ x y i0 _ _ _ ho hx hy Tryz.underlying28 hi hz0 (hz1.trans s1) (s2.symm.trans s1) (by omega) (by omega) (hK _ _ h)
theorem two_ls {w : World} {g : Nat} {j k : Kd} {t : TypeId} {f : Nat × Nat} (h : w.heap[g]? = some (.cells ((ecK j).toArray ++ (ecK k).toArray) t f)) (hl : g < w.heap.size) : Ar.Ls ecK 34 w w.heap.size (some ⟨g, 0, none⟩) [j, k] := fun i x hx => by
  have s1 : (ecK j).toArray.size = 34 := (ecK_sz j).symm
  refine ⟨g, 0, rfl, hl, fun a v hv => ?_⟩
  have hv2 : (ecK x)[a]? = some v := by simpa using hv
  match i, hx with
  | 0, hx =>
    cases hx
    refine (cell_of_row _ _ (0 + 0 * 34 + a) _ _ _ h).trans ?_
    have ha := (List.getElem?_eq_some_iff.1 hv2).1
    rw [Array.getElem?_append_left (by rw [List.size_toArray]; omega), List.getElem?_toArray, show 0 + 0 * 34 + a = a by omega]
    exact hv2
  | 1, hx =>
    cases hx
    refine (cell_of_row _ _ (0 + 1 * 34 + a) _ _ _ h).trans ?_
    rw [Array.getElem?_append_right (by omega), s1, List.getElem?_toArray, show 0 + 1 * 34 + a - 34 = a by omega]
    exact hv2
  | i + 2, hx => cases hx
end Go.Proofs.YtlpejbbmemhloaaGreatDoor.Nd
