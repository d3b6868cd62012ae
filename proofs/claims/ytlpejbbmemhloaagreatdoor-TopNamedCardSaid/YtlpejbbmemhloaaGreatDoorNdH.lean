/- Lists of the call's own (Mk) beside other blocks; one element appended, in a list of operations or in a drawn region; a slice of one struct. No function of the program here. -/
import Derived.Test.YtlpejbbmemhloaaGreatDoorNdC
import Derived.Maps.AppendAt
namespace Go.Proofs.YtlpejbbmemhloaaGreatDoor.Nd
set_option linter.unusedVariables false
set_option linter.unusedSimpArgs false
open Go.ChangeShapes Go.WideShapes Go.ChangeAt Go.RowKit
open Ar Rg
open BigFrame
open Pk (u8s u8s_length)
end Go.Proofs.YtlpejbbmemhloaaGreatDoor.Nd
namespace Go.Proofs.YtlpejbbmemhloaaGreatDoor.Ar
open Go.RowKit
section
variable {α : Type} {enc : α → List Value} {k q : Nat} {e : TypeId} {w w' wr : World} {v : Value} {D : List α}
theorem Mk.grownQ (h : Mk enc k e w wr v D) (hg : wr.grownBy w' (some q)) (hq : w.heap.size ≤ q) (hne : v.ownBlock ≠ some q) : Mk enc k e w w' v D :=
  ⟨h.1.kept hg (Or.inr hne), h.2.grown hg h.2.size (fun k hk => by cases hk; exact hq)⟩
theorem Mk.off {cs : Array Value} {t : TypeId} {f : Nat × Nat} (h : Mk enc k e w wr v D) (hq : wr.heap[q]? = some (.cells cs t f)) (ht : t ≠ e) : v.ownBlock ≠ some q := by
  rcases h.1.2 with ⟨rfl, _⟩ | ⟨g, cap, cur, rfl, _, hg, _⟩
  · simp [Value.ownBlock]
  · intro h
    simp only [Value.ownBlock, Option.some.injEq] at h
    subst h
    rw [hg] at hq
    simp only [Option.some.injEq, Obj.cells.injEq] at hq
    exact ht hq.2.1.symm
end
end Go.Proofs.YtlpejbbmemhloaaGreatDoor.Ar
namespace Go.Proofs.YtlpejbbmemhloaaGreatDoor.Nd
set_option linter.unusedVariables false
set_option linter.unusedSimpArgs false
open Go.ChangeShapes Go.WideShapes Go.ChangeAt Go.RowKit
open Ar Rg
open BigFrame
open Pk (u8s u8s_length)
theorem fill1 (Z cs : Array Value) (h : Z.size = cs.size) : Instr.fill (fun i => some (i * cs.size, cs.size)) Z [(0, .agg cs)] = some cs := by
  rw [Instr.fill.eq_2]
  simp only [Nat.zero_mul, Value.cells]
  rw [if_neg (by simp [h]), Instr.fill.eq_1]
  congr 1
  obtain ⟨l⟩ := cs
  obtain ⟨zl⟩ := Z
  have := fold_put l zl [] 0 0 (by simpa using h) rfl
  simp only [List.nil_append] at this
  rw [← Array.foldl_toList]
  simp only [Array.toList_zipIdx]
  exact this
section
variable {P : Program}
/-- a new row of one struct -/
theorem run_slice1 (w : World) (S e : TypeId) (i : TypeInfo) (z : Value) (cs : Array Value) (hS : P.underlying S = some (.slice e)) (hi : P.info? e = some i) (hz : i.zero = some z) (hsz : i.size = cs.size) (h0 : 0 < cs.size) (hm : cs.size ≤ 2 ^ 24) :
    (Instr.buildSlice S 1 #[(0, .agg cs)]).run P w = .ok (.slice (some ⟨w.heap.size, 0, none⟩) 1 1) (w.alloc (.cells cs e)) := by
  have hu := run_underlying (P := P) hS w
  have hcs : P.cellsOf e = cs.size := by unfold Program.cellsOf; rw [hi]; exact hsz
  have hso := run_sizeOf (P := P) w hi
  rw [hcs] at hso
  unfold Instr.buildSlice
  rw [Sem.run_bind, hu, Result.andThen_ok]
  simp only []
  rw [Sem.run_bind, hso, Result.andThen_ok]
  simp only [Nat.one_mul]
  rw [if_neg (by omega), if_neg (by omega)]
  have hz' : (zeroValue e).run P w = .ok z w := by simp [zeroValue, typeInfo, hi, hz]
  rw [Sem.run_bind, hz', Result.andThen_ok]
  simp only [pure_bind]
  rw [fill1 _ cs (by simp)]
  simp [newRow, newObj]
  rfl
variable {o : Oper} {a : Act} {K : Act → World → Prop} {Q : Exit → Act → World → Prop} {ops : Array Oper} {rest : List Oper}
theorem op_slice1 {w : World} (S e : TypeId) (x : Operand) (i : TypeInfo) (z : Value) (cs : Array Value) (ho : o.op = .buildSlice S 1 #[(0, x)]) (hx : a.eval x = .agg cs)
    (hS : P.underlying S = some (.slice e)) (hi : P.info? e = some i) (hz : i.zero = some z) (hsz : i.size = cs.size) (h0 : 0 < cs.size) (hm : cs.size ≤ 2 ^ 24)
    (h : K (a.put o.dst (.slice (some ⟨w.heap.size, 0, none⟩) 1 1)) (w.alloc (.cells cs e))) : Oper.wp P o a w K Q := by
  unfold Oper.wp execOp
  simp only [ho, List.map_toArray, List.map_cons, List.map_nil, hx, Sem.run_bind, Sem.run_pure, Result.andThen_ok, run_slice1 w S e i z cs hS hi hz hsz h0 hm]
  exact h
theorem wpList_slice1 {w : World} (hgd : o.guard = none) (S e : TypeId) (x : Operand) (i : TypeInfo) (z : Value) (cs : Array Value) (ho : o.op = .buildSlice S 1 #[(0, x)]) (hx : a.eval x = .agg cs)
    (hS : P.underlying S = some (.slice e)) (hi : P.info? e = some i) (hz : i.zero = some z) (hsz : i.size = cs.size) (h0 : 0 < cs.size) (hm : cs.size ≤ 2 ^ 24)
    (h : wpList P ops Q rest (a.put o.dst (.slice (some ⟨w.heap.size, 0, none⟩) 1 1)) (w.alloc (.cells cs e))) : wpList P ops Q (o :: rest) a w :=
  wpList_plain hgd fun K hK => op_slice1 S e x i z cs ho hx hS hi hz hsz h0 hm (hK _ _ h)
section
variable {α : Type} {enc : α → List Value} {k q : Nat} {e : TypeId} {w w' wr : World} {v : Value} {D : List α}
/-- an element in a row of its own is put behind the others -/
theorem op_cat (S : TypeId) (i : TypeInfo) (z : Value) (bytes : Nat) (hS : P.underlying S = some (.slice e)) (hi : P.info? e = some i) (hz : i.zero = some z) (hsize : i.size = k) (hby : i.bytes = bytes) (hzs : z.cells.size = k) (hk0 : 0 < k)
    (hk : ∀ x, (enc x).length = k) (h1 : ∀ x, ∀ u ∈ enc x, u.oneCell' = true) (hM : Mk enc k e w wr v D) (y : α) (g c : Nat) {t : TypeId} {f : Nat × Nat} (hrow : wr.heap[g]? = some (.cells (enc y).toArray t f)) (hlen : D.length + 1 ≤ maxLen) (hbytes : (D.length + 1) * bytes ≤ 140737488355328)
    (s x : Operand) (ho : o.op = .call { callee := .builtin .append, args := #[s, x], argTypes := #[S, S] }) (hs : a.eval s = v) (hx : a.eval x = .slice (some ⟨g, 0, none⟩) 1 c)
    (h : ∀ v' w', Mk enc k e w w' v' (D ++ [y]) → wr.grownBy w' v.ownBlock → (v'.ownBlock = v.ownBlock ∨ v'.ownBlock = some wr.heap.size) → K (a.put o.dst v') w') : Oper.wp P o a wr K Q := by
  obtain ⟨v', w', hr, h2, h3, _, h5⟩ := run_append_own_at (P := P) wr w.heap.size S o.type e i z k bytes hS hi hz hsize hby hzs hk0 v D.length (D.flatMap enc) hM.1 ⟨g, 0, none⟩ 1 c (enc y) (by rw [hk, Nat.one_mul])
    (fun j u hu => by
      rw [Ar.add_plain, Nat.zero_add, cell_of_row _ _ _ _ _ _ hrow]
      simpa using hu) (h1 y) hlen hbytes hM.2.size
  have hM' : Mk enc k e w w' v' (D ++ [y]) := by
    refine ⟨?_, hM.2.grown h3 hM.2.size (fun k hk => (hM.1.lt k hk).1)⟩
    have e : (D ++ [y]).flatMap enc = D.flatMap enc ++ enc y := by simp
    rw [List.length_append, e]
    exact h2
  unfold Oper.wp execOp
  simp only [ho, resolve, invoke, builtin, Sem.run_bind, Sem.run_pure, Result.andThen_ok, List.map_toArray, List.map_cons, List.map_nil, hs, hx, hr]
  exact h v' w' hM' h3 h5
end
end
theorem enI_one (x : It.Itm) : ∀ u ∈ It.enc x, u.oneCell' = true := by
  intro v hv
  simp [It.enc] at hv
  rcases hv with rfl | rfl <;> rfl
theorem infI : (Tryz.prog.info? 63).map (fun i => (i.zero, i.size, i.bytes)) = some (some (.agg #[.string ByteArray.empty, .string ByteArray.empty]), 2, 32) := by kernel_rfl
theorem infK : (Tryz.prog.info? 45).map (fun i => (i.zero, i.size, i.bytes)) = some (some (.agg (#[.string ByteArray.empty, .int .u32 0] ++ zH)), 34, 56) := by kernel_rfl
theorem infV : (Tryz.prog.info? 121).map (fun i => (i.zero, i.size, i.bytes)) = some (some (.agg (#[.string ByteArray.empty, .int .u8 0, .string ByteArray.empty, .int .u64 0, .int .u32 0] ++ zH)), 37, 88) := by kernel_rfl
def enU (n : Nat) : List Value := [.int .u32 n]
theorem enU_one (x : Nat) : ∀ u ∈ enU x, u.oneCell' = true := by
  intro v hv
  simp [enU] at hv
  subst hv; rfl
theorem infU : (Tryz.prog.info? 22).map (fun i => (i.zero, i.size, i.bytes)) = some (some (.int .u32 0), 1, 4) := by kernel_rfl
abbrev MkU (w wr : World) (v : Value) (D : List Nat) : Prop := Mk enU 1 22 w wr v D
/-- of the call's own: items, kids, volumes -/
abbrev MkI (w wr : World) (v : Value) (D : List It.Itm) : Prop := Mk It.enc 2 63 w wr v D
abbrev MkK (w wr : World) (v : Value) (D : List Kd) : Prop := Mk ecK 34 45 w wr v D
abbrev MkV (w wr : World) (v : Value) (D : List Vo) : Prop := Mk ecV 37 121 w wr v D
section
variable {o : Oper} {a : Act} {K : Act → World → Prop} {Q : Exit → Act → World → Prop} {ops : Array Oper} {rest : List Oper} {w wr : World} {v : Value}
theorem op_catI {D : List It.Itm} (hM : MkI w wr v D) (y : It.Itm) (g c : Nat) {t : TypeId} {f : Nat × Nat} (hrow : wr.heap[g]? = some (.cells (It.enc y).toArray t f)) (hlen : D.length + 1 ≤ 4398046511104)
    (s x : Operand) (ho : o.op = .call { callee := .builtin .append, args := #[s, x], argTypes := #[27, 27] }) (hs : a.eval s = v) (hx : a.eval x = .slice (some ⟨g, 0, none⟩) 1 c)
    (h : ∀ v' w', MkI w w' v' (D ++ [y]) → wr.grownBy w' v.ownBlock → (v'.ownBlock = v.ownBlock ∨ v'.ownBlock = some wr.heap.size) → K (a.put o.dst v') w') : Oper.wp Tryz.prog o a wr K Q := by
  obtain ⟨i0, hi, hz0, hz1, hz2⟩ := info_parts infI
  exact op_cat 27 i0 _ 32 Tryz.underlying27 hi hz0 hz1 hz2 rfl (by decide) It.enc_len enI_one hM y g c hrow (by unfold maxLen; omega) (by omega) s x ho hs hx h
theorem op_catK {D : List Kd} (hM : MkK w wr v D) (y : Kd) (g c : Nat) {t : TypeId} {f : Nat × Nat} (hrow : wr.heap[g]? = some (.cells (ecK y).toArray t f)) (hlen : D.length + 1 ≤ 2513169434916)
    (s x : Operand) (ho : o.op = .call { callee := .builtin .append, args := #[s, x], argTypes := #[28, 28] }) (hs : a.eval s = v) (hx : a.eval x = .slice (some ⟨g, 0, none⟩) 1 c)
    (h : ∀ v' w', MkK w w' v' (D ++ [y]) → wr.grownBy w' v.ownBlock → (v'.ownBlock = v.ownBlock ∨ v'.ownBlock = some wr.heap.size) → K (a.put o.dst v') w') : Oper.wp Tryz.prog o a wr K Q := by
  obtain ⟨i0, hi, hz0, hz1, hz2⟩ := info_parts infK
  exact op_cat 28 i0 _ 56 Tryz.underlying28 hi hz0 hz1 hz2 rfl (by decide) ecK_len ecK_one hM y g c hrow (by unfold maxLen; omega) (by omega) s x ho hs hx h
theorem op_catV {D : List Vo} (hM : MkV w wr v D) (y : Vo) (g c : Nat) {t : TypeId} {f : Nat × Nat} (hrow : wr.heap[g]? = some (.cells (ecV y).toArray t f)) (hlen : D.length + 1 ≤ 1599289640401)
    (s x : Operand) (ho : o.op = .call { callee := .builtin .append, args := #[s, x], argTypes := #[29, 29] }) (hs : a.eval s = v) (hx : a.eval x = .slice (some ⟨g, 0, none⟩) 1 c)
    (h : ∀ v' w', MkV w w' v' (D ++ [y]) → wr.grownBy w' v.ownBlock → (v'.ownBlock = v.ownBlock ∨ v'.ownBlock = some wr.heap.size) → K (a.put o.dst v') w') : Oper.wp Tryz.prog o a wr K Q := by
  obtain ⟨i0, hi, hz0, hz1, hz2⟩ := info_parts infV
  exact op_cat 29 i0 _ 88 Tryz.underlying29 hi hz0 hz1 hz2 rfl (by decide) ecV_len ecV_one hM y g c hrow (by unfold maxLen; omega) (by omega) s x ho hs hx h
theorem op_catU {D : List Nat} (hM : MkU w wr v D) (y : Nat) (g c : Nat) {t : TypeId} {f : Nat × Nat} (hrow : wr.heap[g]? = some (.cells (enU y).toArray t f)) (hlen : D.length + 1 ≤ 35184372088832)
    (s x : Operand) (ho : o.op = .call { callee := .builtin .append, args := #[s, x], argTypes := #[64, 64] }) (hs : a.eval s = v) (hx : a.eval x = .slice (some ⟨g, 0, none⟩) 1 c)
    (h : ∀ v' w', MkU w w' v' (D ++ [y]) → wr.grownBy w' v.ownBlock → (v'.ownBlock = v.ownBlock ∨ v'.ownBlock = some wr.heap.size) → K (a.put o.dst v') w') : Oper.wp Tryz.prog o a wr K Q := by
  obtain ⟨i0, hi, hz0, hz1, hz2⟩ := info_parts infU
  exact op_cat 64 i0 _ 4 Tryz.underlying64 hi hz0 hz1 hz2 rfl (by decide) (fun _ => rfl) enU_one hM y g c hrow (by unfold maxLen; omega) (by omega) s x ho hs hx h
theorem op_oneI (x : Operand) (y : It.Itm) (ho : o.op = .buildSlice 27 1 #[(0, x)]) (hx : a.eval x = .agg (It.enc y).toArray) (h : K (a.put o.dst (.slice (some ⟨w.heap.size, 0, none⟩) 1 1)) (w.alloc (.cells (It.enc y).toArray 63))) : Oper.wp Tryz.prog o a w K Q := by
  obtain ⟨i0, hi, hz0, hz1, hz2⟩ := info_parts infI
  exact op_slice1 _ _ x i0 _ _ ho hx Tryz.underlying27 hi hz0 hz1 (show 0 < 2 by decide) (show 2 ≤ 2 ^ 24 by decide) h
theorem op_oneK (x : Operand) (y : Kd) (ho : o.op = .buildSlice 28 1 #[(0, x)]) (hx : a.eval x = .agg (ecK y).toArray) (h : K (a.put o.dst (.slice (some ⟨w.heap.size, 0, none⟩) 1 1)) (w.alloc (.cells (ecK y).toArray 45))) : Oper.wp Tryz.prog o a w K Q := by
  obtain ⟨i0, hi, hz0, hz1, hz2⟩ := info_parts infK
  exact op_slice1 _ _ x i0 _ _ ho hx Tryz.underlying28 hi hz0 (hz1.trans (ecK_sz y)) (by rw [← ecK_sz y]; decide) (by rw [← ecK_sz y]; decide) h
theorem op_oneV (x : Operand) (y : Vo) (ho : o.op = .buildSlice 29 1 #[(0, x)]) (hx : a.eval x = .agg (ecV y).toArray) (h : K (a.put o.dst (.slice (some ⟨w.heap.size, 0, none⟩) 1 1)) (w.alloc (.cells (ecV y).toArray 121))) : Oper.wp Tryz.prog o a w K Q := by
  obtain ⟨i0, hi, hz0, hz1, hz2⟩ := info_parts infV
  exact op_slice1 _ _ x i0 _ _ ho hx Tryz.underlying29 hi hz0 (hz1.trans (ecV_sz y)) (by rw [← ecV_sz y]; decide) (by rw [← ecV_sz y]; decide) h
end
end Go.Proofs.YtlpejbbmemhloaaGreatDoor.Nd
