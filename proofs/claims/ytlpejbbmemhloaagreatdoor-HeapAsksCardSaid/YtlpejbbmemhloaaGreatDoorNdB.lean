/- Loads and stores of whole structs: guarded loads, a store into a new variable; kids and volumes as rows of one length. -/
import Derived.Test.YtlpejbbmemhloaaGreatDoorNdR
import Derived.BigFrame
namespace Go.Proofs.YtlpejbbmemhloaaGreatDoor.Nd
set_option linter.unusedVariables false
open Go.ChangeShapes Go.WideShapes Go.ChangeAt Go.RowKit
open Rg
open BigFrame
open Pk (u8s u8s_length)
section
variable {P : Program} {ops : Array Oper} {rest : List Oper} {o : Oper} {a : Act} {w : World} {Q : Exit → Act → World → Prop}
/-- a load of a whole row, guarded -/
theorem wpList_load_row_g (ty : TypeId) (x : Operand) (ho : o.op = .load ty x) (hw : Region.wanted o (yielded ops a.tmps) = true)
    (g : Nat) (hx : a.eval x = .pointer (some ⟨g, 0, none⟩)) (t : TypeId) (cs : Array Value) (fr : Nat × Nat) (d : TypeDesc) (hg : w.heap[g]? = some (.cells cs t fr))
    (hu : P.underlying ty = some d) (hd : (match d with | .struct _ | .array _ _ => true | _ => false) = true) (hi : (P.info? ty).map (·.size) = some cs.size)
    (h : wpList P ops Q rest (a.put o.dst (.agg cs)) w) : wpList P ops Q (o :: rest) a w :=
  wpList_want hw fun _ hK => wp_load_row ty x ho g hx t cs fr d hg hu hd hi (hK _ _ h)
/-- a store of a whole row into a variable that is new -/
theorem wpList_fresh (hgd : o.guard = none) (ty : TypeId) (x y : Operand) (ho : o.op = .store ty x y) (cs Z : Array Value) (t : TypeId) (hx : a.eval x = .pointer (some ⟨w.heap.size, 0, none⟩)) (hy : a.eval y = .agg cs)
    (hi : (P.info? ty).map (·.size) = some cs.size) (hz : Z.size = cs.size) (h1 : cs.all (·.oneCell') = true)
    (h : ∀ w', Below w.heap.size w w' → w'.heap[w.heap.size]? = some (.cells cs t (0, 0)) → w'.heap.size = w.heap.size + 1 → wpList P ops Q rest (a.put o.dst undef) w') : wpList P ops Q (o :: rest) a (w.alloc (.cells Z t)) := by
  have hn := heap_alloc_new w (.cells Z t)
  have hb : Below w.heap.size w (w.alloc (.cells Z t)) := (Below.refl _ _).alloc (Nat.le_refl _) _
  refine wpList_store_row hgd ty x y ho w.heap.size cs hx hy t Z hn hi hz h1 (h _ ?_ ?_ ?_)
  · have hg := grown_setRow (w.alloc (.cells Z t)) w.heap.size cs
    exact hb.grown hg hb.size (fun k hk => by cases hk; exact Nat.le_refl _)
  · exact setRow_heap' hn
  · simp [World.setRow]
end
/-! ## kids and volumes as rows of one length -/
def fix (l : List UInt8) : List UInt8 := (l ++ List.replicate 32 0).take 32
theorem fix_len (l : List UInt8) : (fix l).length = 32 := by unfold fix; rw [List.length_take, List.length_append, List.length_replicate]; omega
theorem fix_of {l : List UInt8} (h : l.length = 32) : fix l = l := by unfold fix; rw [List.take_append_of_le_length (by omega), List.take_of_length_le (by omega)]
def ecK (x : Kd) : List Value := .string x.k :: .int .u32 x.n :: u8s (fix x.hs)
def ecV (x : Vo) : List Value := .string x.nm :: .int .u8 x.kd :: .string x.fr :: .int .u64 x.bn :: .int .u32 x.rt :: u8s (fix x.hs)
theorem ecK_len (x : Kd) : (ecK x).length = 34 := by unfold ecK; rw [List.length_cons, List.length_cons, u8s_length, fix_len]
theorem ecV_len (x : Vo) : (ecV x).length = 37 := by unfold ecV; rw [List.length_cons, List.length_cons, List.length_cons, List.length_cons, List.length_cons, u8s_length, fix_len]
theorem ecK_of {x : Kd} (h : x.hs.length = 32) : ecK x = encK x := by unfold ecK encK; rw [fix_of h]
theorem ecV_of {x : Vo} (h : x.hs.length = 32) : ecV x = encV x := by unfold ecV encV; rw [fix_of h]
theorem u8s_cell (l : List UInt8) : ∀ u ∈ u8s l, u.oneCell' = true := by
  intro v hv
  unfold u8s at hv
  obtain ⟨b, _, rfl⟩ := List.mem_map.1 hv
  rfl
theorem ecK_one (x : Kd) : ∀ u ∈ ecK x, u.oneCell' = true := by
  intro u hu
  unfold ecK at hu
  rcases List.mem_cons.1 hu with rfl | hu
  · rfl
  · rcases List.mem_cons.1 hu with rfl | hu
    · rfl
    · exact u8s_cell _ u hu
theorem ecV_one (x : Vo) : ∀ u ∈ ecV x, u.oneCell' = true := by
  intro u hu
  unfold ecV at hu
  rcases List.mem_cons.1 hu with rfl | hu
  · rfl
  · rcases List.mem_cons.1 hu with rfl | hu
    · rfl
    · rcases List.mem_cons.1 hu with rfl | hu
      · rfl
      · rcases List.mem_cons.1 hu with rfl | hu
        · rfl
        · rcases List.mem_cons.1 hu with rfl | hu
          · rfl
          · exact u8s_cell _ u hu
theorem all_of_one {l : List Value} (h : ∀ u ∈ l, u.oneCell' = true) : l.toArray.all (·.oneCell') = true := by
  rw [Array.all_eq_true']; intro v hv; exact h v (List.mem_toArray.1 hv)
theorem infoK34 : (Tryz.prog.info? 45).map (·.size) = some 34 := by kernel_rfl
theorem infoV37 : (Tryz.prog.info? 121).map (·.size) = some 37 := by kernel_rfl
theorem infoKs (x : Kd) : (Tryz.prog.info? 45).map (·.size) = some (ecK x).length := by rw [ecK_len]; exact infoK34
theorem infoVs (x : Vo) : (Tryz.prog.info? 121).map (·.size) = some (ecV x).length := by rw [ecV_len]; exact infoV37
theorem infoKa (x : Kd) : (Tryz.prog.info? 45).map (·.size) = some (ecK x).toArray.size := by rw [List.size_toArray]; exact infoKs x
theorem infoVa (x : Vo) : (Tryz.prog.info? 121).map (·.size) = some (ecV x).toArray.size := by rw [List.size_toArray]; exact infoVs x
theorem ecK_sz (x : Kd) : 34 = (ecK x).toArray.size := by rw [List.size_toArray, ecK_len]
theorem ecV_sz (x : Vo) : 37 = (ecV x).toArray.size := by rw [List.size_toArray, ecV_len]
end Go.Proofs.YtlpejbbmemhloaaGreatDoor.Nd
