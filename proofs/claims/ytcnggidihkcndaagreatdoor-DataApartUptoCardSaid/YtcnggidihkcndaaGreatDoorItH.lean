/- Contract of the document's find: where a key is, looked for from the front. -/
import Derived.Test.YtcnggidihkcndaaGreatDoorItG
namespace Go.Proofs.YtcnggidihkcndaaGreatDoor.It
set_option linter.unusedVariables false
set_option maxRecDepth 100000
open Go.ChangeShapes Go.WideShapes Go.ChangeAt Go.RowKit
open Ar Rg St
def No (D : List Itm) (k : ByteArray) (i : Nat) : Prop := ∀ y ∈ D.take i, key y ≠ k.data.toList
theorem No.zero (D : List Itm) (k : ByteArray) : No D k 0 := by intro y hy; simp at hy
theorem No.more {D : List Itm} {k : ByteArray} {i : Nat} {x : Itm} (h : No D k i) (hx : D[i]? = some x) (hk : key x ≠ k.data.toList) : No D k (i + 1) := by
  intro y hy
  have e : D.take (i + 1) = D.take i ++ [x] := by rw [List.take_add_one, hx]; rfl
  rw [e] at hy
  rcases List.mem_append.1 hy with hy | hy
  · exact h y hy
  · simp at hy; subst hy; exact hk
theorem No.get_none {D : List Itm} {k : ByteArray} {i : Nat} (h : No D k i) (hi : D.length ≤ i) : get D k = none := by
  unfold get
  rw [Option.map_eq_none_iff, List.find?_eq_none]
  intro x hx
  have := h x (by rw [List.take_of_length_le hi]; exact hx)
  simpa using this
theorem No.get_some {D : List Itm} {k : ByteArray} {i : Nat} {x : Itm} (h : No D k i) (hx : D[i]? = some x) (hk : key x = k.data.toList) : get D k = some x.v := by
  have e : D = D.take i ++ x :: D.drop (i + 1) := by rw [← drop_at hx, List.take_append_drop]
  unfold get
  rw [e, List.find?_append]
  have hn : (D.take i).find? (fun x => decide (key x = k.data.toList)) = none := by
    rw [List.find?_eq_none]
    intro y hy
    have := h y hy
    simpa using this
  rw [hn, Option.none_or, List.find?_cons_of_pos (by simpa using hk)]
  rfl
theorem str_eq (a b : ByteArray) : (a.toList == b.toList) = decide (a.data.toList = b.data.toList) := by
  rw [ByteArray.toList_eq, ByteArray.toList_eq, Bool.eq_iff_iff]
  simp
/-- -1 and none, or a place and what is there -/
def FindV (D : List Itm) (k : ByteArray) (v : Int) : Prop := (v = -1 ∧ get D k = none) ∨ ∃ (p : Nat) (y : Itm), v = p ∧ D[p]? = some y ∧ get D k = some y.v
end Go.Proofs.YtcnggidihkcndaaGreatDoor.It
