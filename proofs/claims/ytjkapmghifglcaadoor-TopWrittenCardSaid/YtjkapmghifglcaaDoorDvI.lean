/- Contract of package slices' CompactFunc at blocks, with sameNum. -/
import Derived.Test.YtjkapmghifglcaaDoorDvH
import Derived.Deep.MidRow
namespace Go.Proofs.YtjkapmghifglcaaDoor.Dv
set_option linter.unusedVariables false
open Go.ChangeShapes Go.WideShapes Go.ChangeAt Go.RowKit
open Ar Rg St
open BigFrame
def SAME : Value := .func (.func 71) #[] #[]
/-- 'clear' of a slice in a block: what lies before it, and in other blocks, stays -/
theorem run_clear2 (w : World) (ty : TypeId) (b o n c : Nat) (hn : 0 < n) (ht : w.there b o (n * 2)) :
    ∃ w', (Builtin.clear_ #[23] ty #[.slice (some ⟨b, o, none⟩) n c]).run Tryd.prog w = .ok (.tuple #[]) w' ∧ w.grownBy w' (some b) ∧ (∀ j, j < o → w'.cell? ⟨b, j, none⟩ = w.cell? ⟨b, j, none⟩) ∧ ∀ q, w'.frozen? q = w.frozen? q := by
  obtain ⟨i0, hi, hz0, hz1, hz2⟩ := info_parts infoB
  have hv : ∀ w, (zeroValue 41).run Tryd.prog w = .ok (.agg #[.int .u32 0, .string ByteArray.empty]) w := fun w => by
    simp [zeroValue, typeInfo, hi, hz0]
  have hl : (Builtin.zeroCells (Value.agg #[.int .u32 0, .string ByteArray.empty]).cells n).toList.length = n * 2 := by
    simp [Builtin.zeroCells, Value.cells]
  have h1 : ∀ v ∈ (Builtin.zeroCells (Value.agg #[.int .u32 0, .string ByteArray.empty]).cells n).toList, v.oneCell' = true := by
    intro v hv
    obtain ⟨i, hi, rfl⟩ := List.mem_iff_getElem.1 hv
    simp [Builtin.zeroCells, Value.cells]
    have : i % 2 = 0 ∨ i % 2 = 1 := by omega
    rcases this with e | e <;> simp [e, Value.oneCell']
  have hst := run_storeCells_cells (P := Tryd.prog) b o (Builtin.zeroCells (Value.agg #[.int .u32 0, .string ByteArray.empty]).cells n).toList 0 w (by rw [hl]; simpa using fun j hj => (ht j hj).1) (by rw [hl]; simpa using fun j hj => (ht j hj).2) h1
  simp only [Nat.add_zero] at hst
  obtain ⟨m, rfl⟩ : ∃ m, n = m + 1 := ⟨n - 1, by omega⟩
  refine ⟨w.setCells b o (Builtin.zeroCells (Value.agg #[.int .u32 0, .string ByteArray.empty]).cells (m + 1)).toList, by simp [Builtin.clear_, run_underlying Tryd.underlying23, hv, hst], grown_setCells _ _ _ _, fun j hj => ?_, fun q => frozen_setCells _ _ _ _ _⟩
  exact World.cell?_setCells_out b _ o w ⟨b, j, none⟩ (fun _ _ => Or.inl hj)
theorem wpList_clear {ops : Array Oper} {rest : List Oper} {o : Oper} {a : Act} {Q : Exit → Act → World → Prop} {w : World} (b q n c : Nat) (hn : 0 < n) (ht : w.there b q (n * 2))
    (hgd : o.guard = none) (s : Operand) (ho : o.op = .call { callee := .builtin .clear, args := #[s], argTypes := #[23] }) (hs : a.eval s = .slice (some ⟨b, q, none⟩) n c)
    (h : ∀ w', w.grownBy w' (some b) → (∀ j, j < q → w'.cell? ⟨b, j, none⟩ = w.cell? ⟨b, j, none⟩) → (∀ q, w'.frozen? q = w.frozen? q) → wpList Tryd.prog ops Q rest (a.put o.dst (.tuple #[])) w') : wpList Tryd.prog ops Q (o :: rest) a w := by
  refine wpList_plain hgd fun K hK => ?_
  obtain ⟨w', hr, h2, h3, h4⟩ := run_clear2 w o.type b q n c hn ht
  unfold Oper.wp execOp
  simp only [ho, resolve, invoke, builtin, Sem.run_bind, Sem.run_pure, Result.andThen_ok, List.map_toArray, List.map_cons, List.map_nil, hs, hr]
  exact hK _ _ (h w' h2 h3 h4)
end Go.Proofs.YtjkapmghifglcaaDoor.Dv
