/- A new row of two structs; superblocks put into lists, in a list of operations. -/
import Derived.Test.YtlchjohaacbkpaaGreatDoorRsB
import Derived.Test.YtlchjohaacbkpaaGreatDoorSuO
namespace Go.Proofs.YtlchjohaacbkpaaGreatDoor.Rs
set_option linter.unusedVariables false
set_option linter.unusedSimpArgs false
open Go.ChangeShapes Go.WideShapes Go.ChangeAt Go.RowKit
open Sp Nd Rg Ar
open BigFrame
theorem fold_put2 : ∀ (vs zs pre post : List Value) (p k : Nat), zs.length = vs.length → pre.length = p + k → List.foldl (fun (cs : Array Value) (x : Value × Nat) => cs.setIfInBounds (p + x.snd) x.fst) (pre ++ (zs ++ post)).toArray (vs.zipIdx k) = (pre ++ (vs ++ post)).toArray
  | [], [], pre, post, p, k, _, _ => rfl
  | [], z :: zs, pre, post, p, k, h, _ => by cases h
  | v :: vs, [], pre, post, p, k, h, _ => by cases h
  | v :: vs, z :: zs, pre, post, p, k, h, hp => by
    rw [List.zipIdx_cons, List.foldl_cons]
    have e : (pre ++ (z :: zs ++ post)).toArray.setIfInBounds (p + k) v = ((pre ++ [v]) ++ (zs ++ post)).toArray := by
      rw [List.setIfInBounds_toArray, List.set_append_right _ _ (by omega), show p + k - pre.length = 0 by omega, List.cons_append, List.set_cons_zero, List.append_assoc]; rfl
    show List.foldl _ ((pre ++ (z :: zs ++ post)).toArray.setIfInBounds (p + k) v) _ = _
    rw [e, fold_put2 vs zs (pre ++ [v]) post p (k + 1) (by simpa using h) (by rw [List.length_append, List.length_singleton]; omega), List.append_assoc]; rfl
theorem fill2 (Z cs ds : Array Value) (k : Nat) (hc : cs.size = k) (hd : ds.size = k) (h : Z.size = 2 * k) : Instr.fill (fun i => some (i * k, k)) Z [(0, .agg cs), (1, .agg ds)] = some (cs ++ ds) := by
  rw [Instr.fill.eq_2]
  simp only [Nat.zero_mul, Value.cells]
  rw [if_neg (by simp [hc, h]; omega), Instr.fill.eq_2]
  simp only [Nat.one_mul, Value.cells]
  have hl : (Z.toList.take k).length = cs.toList.length := by rw [List.length_take, Array.length_toList, Array.length_toList]; omega
  have e1 : Array.foldl (fun (cs : Array Value) (x : Value × Nat) => cs.setIfInBounds (0 + x.snd) x.fst) Z cs.zipIdx = (cs.toList ++ (Z.toList.drop k)).toArray := by
    have := fold_put2 cs.toList (Z.toList.take k) [] (Z.toList.drop k) 0 0 hl rfl
    rw [List.nil_append, List.nil_append, List.take_append_drop] at this
    rw [← Array.foldl_toList, Array.toList_zipIdx]
    simpa using this
  have e2 : Array.foldl (fun (cs : Array Value) (x : Value × Nat) => cs.setIfInBounds (k + x.snd) x.fst) (cs.toList ++ (Z.toList.drop k)).toArray ds.zipIdx = cs ++ ds := by
    have := fold_put2 ds.toList (Z.toList.drop k) cs.toList [] k 0 (by rw [List.length_drop, Array.length_toList, Array.length_toList]; omega) (by rw [Array.length_toList]; omega)
    rw [List.append_nil, List.append_nil] at this
    rw [← Array.foldl_toList, Array.toList_zipIdx, this]
    apply Array.toList_inj.1
    simp
  rw [e1, e2, if_neg (by simp [hc, hd, h]; omega), Instr.fill.eq_1]
section
variable {P : Program}
/-- a new row of two structs -/
theorem run_slice2 (w : World) (S e : TypeId) (i : TypeInfo) (z : Value) (k : Nat) (cs ds : Array Value) (hS : P.underlying S = some (.slice e)) (hi : P.info? e = some i) (hz : i.zero = some z) (hsz : i.size = k) (hc : cs.size = k) (hd : ds.size = k) (h0 : 0 < k) (hm : 2 * k ≤ 2 ^ 24) (hzs : z.cells.size = k) :
    (Instr.buildSlice S 2 #[(0, .agg cs), (1, .agg ds)]).run P w = .ok (.slice (some ⟨w.heap.size, 0, none⟩) 2 2) (w.alloc (.cells (cs ++ ds) e)) := by
  have hu := run_underlying (P := P) hS w
  have hcs : P.cellsOf e = k := by unfold Program.cellsOf; rw [hi]; exact hsz
  have hso := run_sizeOf (P := P) w hi
  rw [hcs] at hso
  unfold Instr.buildSlice
  rw [Sem.run_bind, hu, Result.andThen_ok]
  simp only []
  rw [Sem.run_bind, hso, Result.andThen_ok]
  try simp only []
  rw [if_neg (by omega), if_neg (by omega)]
  have hz' : (zeroValue e).run P w = .ok z w := by simp [zeroValue, typeInfo, hi, hz]
  rw [Sem.run_bind, hz', Result.andThen_ok]
  simp only [pure_bind]
  rw [fill2 _ cs ds k hc hd (by simp)]
  simp [newRow, newObj]
  rfl
variable {o : Oper} {a : Act} {K : Act → World → Prop} {Q : Exit → Act → World → Prop} {ops : Array Oper} {rest : List Oper}
theorem op_slice2 {w : World} (S e : TypeId) (x y : Operand) (i : TypeInfo) (z : Value) (k : Nat) (cs ds : Array Value) (ho : o.op = .buildSlice S 2 #[(0, x), (1, y)]) (hx : a.eval x = .agg cs) (hy : a.eval y = .agg ds)
    (hS : P.underlying S = some (.slice e)) (hi : P.info? e = some i) (hz : i.zero = some z) (hsz : i.size = k) (hc : cs.size = k) (hd : ds.size = k) (h0 : 0 < k) (hm : 2 * k ≤ 2 ^ 24) (hzs : z.cells.size = k)
    (h : K (a.put o.dst (.slice (some ⟨w.heap.size, 0, none⟩) 2 2)) (w.alloc (.cells (cs ++ ds) e))) : Oper.wp P o a w K Q := by
  unfold Oper.wp execOp
  simp only [ho, List.map_toArray, List.map_cons, List.map_nil, hx, hy, Sem.run_bind, Sem.run_pure, Result.andThen_ok, run_slice2 w S e i z k cs ds hS hi hz hsz hc hd h0 hm hzs]
  exact h
end
section
variable {o : Oper} {a : Act} {K : Act → World → Prop} {Q : Exit → Act → World → Prop} {ops : Array Oper} {rest : List Oper} {w wr : World} {v : Value}
theorem op_twoS (x y : Operand) (s t : Su) (ho : o.op = .buildSlice 51 2 #[(0, x), (1, y)]) (hx : a.eval x = .agg (Ss.enc s).toArray) (hy : a.eval y = .agg (Ss.enc t).toArray)
    (h : K (a.put o.dst (.slice (some ⟨w.heap.size, 0, none⟩) 2 2)) (w.alloc (.cells ([s, t].flatMap Ss.enc).toArray 44))) : Oper.wp Tryz.prog o a w K Q := by
  obtain ⟨i0, hi, hz0, hz1, hz2⟩ := info_parts infS
  refine op_slice2 51 44 x y i0 _ 35 _ _ ho hx hy Tryz.underlying51 hi hz0 hz1 (encS_sz s).symm (encS_sz t).symm (by decide) (by decide) rfl ?_
  have e : (Ss.enc s).toArray ++ (Ss.enc t).toArray = ([s, t].flatMap Ss.enc).toArray := by
    apply Array.toList_inj.1
    simp
  rw [e]
  exact h
theorem wpList_oneS (x : Operand) (y : Su) (hgd : o.guard = none) (ho : o.op = .buildSlice 51 1 #[(0, x)]) (hx : a.eval x = .agg (Ss.enc y).toArray) (h : wpList Tryz.prog ops Q rest (a.put o.dst (.slice (some ⟨w.heap.size, 0, none⟩) 1 1)) (w.alloc (.cells (Ss.enc y).toArray 44))) : wpList Tryz.prog ops Q (o :: rest) a w :=
  wpList_plain hgd fun K hK => op_oneS x y ho hx (hK _ _ h)
theorem wpList_catS {D : List Su} (hM : MkS w wr v D) (y : Su) (g c : Nat) {t : TypeId} {f : Nat × Nat} (hrow : wr.heap[g]? = some (.cells (Ss.enc y).toArray t f)) (hlen : D.length + 1 ≤ 2513169434916) (hgd : o.guard = none)
    (s x : Operand) (ho : o.op = .call { callee := .builtin .append, args := #[s, x], argTypes := #[51, 51] }) (hs : a.eval s = v) (hx : a.eval x = .slice (some ⟨g, 0, none⟩) 1 c)
    (h : ∀ v' w', MkS w w' v' (D ++ [y]) → wr.grownBy w' v.ownBlock → wpList Tryz.prog ops Q rest (a.put o.dst v') w') : wpList Tryz.prog ops Q (o :: rest) a wr :=
  wpList_plain hgd fun K hK => op_catS hM y g c hrow hlen s x ho hs hx fun v' w' h1 h2 h3 => hK _ _ (h v' w' h1 h2)
end
theorem sat_mk {w wr : World} {v : Value} {L : List Su} (h : MkS w wr v L) : SAt wr v L := by
  obtain ⟨A, c, h1, h2, h3, h4⟩ := h.ls Ss.enc_len
  exact ⟨A, _, c, h1, rfl, h2, h4⟩
end Go.Proofs.YtlchjohaacbkpaaGreatDoor.Rs
