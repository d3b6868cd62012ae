/- Elements of some cells each, in a block: read and stored in place. No word of the program here. -/
import Derived.Test.YtjkmfonngbendaaGreatDoorSortM
import Derived.Below
import Derived.Deep.MidRow
import Derived.Deep.Upon
namespace Go.Proofs.YtjkmfonngbendaaGreatDoor.Ar
set_option linter.unusedVariables false
open Go.RowKit
section
variable {α : Type} {enc : α → List Value} {k : Nat}
/-- the elements of D lie in block g, k cells each, from its head on, and may be written -/
def Arr (enc : α → List Value) (k : Nat) (w : World) (g : Nat) (D : List α) : Prop := ∀ i x, D[i]? = some x → w.rangeAt g (i * k) (enc x) ∧ ∀ j, j < k → w.frozen? ⟨g, i * k + j, none⟩ = false
variable {w w' : World} {g : Nat} {D : List α}
theorem Arr.range (h : Arr enc k w g D) {i : Nat} {x : α} (hx : D[i]? = some x) : w.rangeAt g (i * k) (enc x) := (h i x hx).1
theorem Arr.there (hk : ∀ x, (enc x).length = k) (h : Arr enc k w g D) {i : Nat} (hi : i < D.length) : w.there g (i * k) k := fun j hj => by
  obtain ⟨h1, h2⟩ := h i _ (List.getElem?_eq_getElem hi)
  have hl := hk D[i]
  exact ⟨by rw [h1 j _ (List.getElem?_eq_getElem (by omega))]; rfl, h2 j hj⟩
theorem Arr.lt (hk : ∀ x, (enc x).length = k) (h0 : 0 < k) (h : Arr enc k w g D) (hD : 0 < D.length) : g < w.heap.size := by
  have h1 := (h 0 _ (List.getElem?_eq_getElem hD)).1
  have hl := hk D[0]
  exact World.block_lt_of_cell? w _ (h1 0 _ (List.getElem?_eq_getElem (by omega)))
theorem Arr.block (h : Arr enc k w g D) (hb : w'.heap[g]? = w.heap[g]?) : Arr enc k w' g D := fun i x hx => by
  obtain ⟨h1, h2⟩ := h i x hx
  exact ⟨fun j v hv => (World.cell?_of_block (a := ⟨g, _, none⟩) hb).trans (h1 j v hv), fun j hj => (World.frozen?_of_block (a := ⟨g, _, none⟩) hb).trans (h2 j hj)⟩
theorem Arr.nil : Arr enc k w g [] := fun i x hx => by simp at hx
theorem Arr.grown {row : Option Nat} (h : Arr enc k w g D) (hg : w.grownBy w' row) (hlt : g < w.heap.size) (hne : some g ≠ row) : Arr enc k w' g D := h.block (hg.block g hlt hne)
theorem Arr.grown0 (hk : ∀ x, (enc x).length = k) (h0 : 0 < k) (h : Arr enc k w g D) (hg : w.grownBy w' none) : Arr enc k w' g D := by
  rcases Nat.eq_zero_or_pos D.length with hD | hD
  · have : D = [] := List.eq_nil_of_length_eq_zero hD
    subst this; exact Arr.nil
  · exact h.grown hg (h.lt hk h0 hD) (by intro h; cases h)
theorem Arr.drew (h : Arr enc k w g D) : Arr enc k w.drew g D := h
theorem frozen_setCells (b : Nat) (vs : List Value) (o : Nat) (w : World) (x : Addr) : (w.setCells b o vs).frozen? x = w.frozen? x := World.frozen?_setCells b vs o w x
theorem Arr.store (hk : ∀ x, (enc x).length = k) (h : Arr enc k w g D) {i : Nat} (hi : i < D.length) (y : α) : Arr enc k (w.setCells g (i * k) (enc y)) g (D.set i y) := fun j x hx => by
  by_cases hji : j = i
  · subst hji
    rw [List.getElem?_set_self hi] at hx
    cases hx
    refine ⟨World.rangeAt_setCells_same w g (j * k) (enc y) (by rw [hk]; exact h.there hk hi), fun q hq => ?_⟩
    rw [frozen_setCells]
    exact (h j _ (List.getElem?_eq_getElem hi)).2 q hq
  · rw [List.getElem?_set_ne (Ne.symm hji)] at hx
    obtain ⟨h1, h2⟩ := h j x hx
    refine ⟨World.rangeAt_setCells_apart h1 g (i * k) (enc y) (Or.inr ?_), fun q hq => by rw [frozen_setCells]; exact h2 q hq⟩
    rw [hk, hk]
    rcases Nat.lt_or_gt_of_ne hji with hlt | hgt
    · left
      have : (j + 1) * k ≤ i * k := Nat.mul_le_mul_right k hlt
      rw [Nat.succ_mul] at this
      exact this
    · right
      have : (i + 1) * k ≤ j * k := Nat.mul_le_mul_right k hgt
      rw [Nat.succ_mul] at this
      exact this
theorem size_setCells (g : Nat) : ∀ (vs : List Value) (o : Nat) (w : World), (w.setCells g o vs).heap.size = w.heap.size
  | [], _, _ => rfl
  | v :: vs, o, w => by
    rw [World.setCells, size_setCells g vs]
    simp [World.setCell]
theorem grown_setCells (w : World) (g o : Nat) (vs : List Value) : w.grownBy (w.setCells g o vs) (some g) := by
  refine ⟨World.os_setCells _ _ _ _, ?_, World.output_setCells _ _ _ _, by rw [size_setCells]; exact Nat.le_refl _, fun q hq hne => World.heap_setCells_other w g o vs hq (fun e => hne (by rw [e]))⟩
  exact tape_setCells g vs o w
where
  tape_setCells (g : Nat) : ∀ (vs : List Value) (o : Nat) (w : World), (w.setCells g o vs).tape = w.tape
    | [], _, _ => rfl
    | v :: vs, o, w => by
      rw [World.setCells, tape_setCells g vs]
      rfl
end
theorem grown_drew (w : World) (row : Option Nat) : w.grownBy w.drew row := ⟨rfl, rfl, rfl, Nat.le_refl _, fun _ _ _ => rfl⟩
theorem grown_refl (w : World) (row : Option Nat) : w.grownBy w row := ⟨rfl, rfl, rfl, Nat.le_refl _, fun _ _ _ => rfl⟩
theorem grown_trans {w w' w'' : World} {row : Option Nat} (h : w.grownBy w' row) (h' : w'.grownBy w'' row) : w.grownBy w'' row :=
  ⟨h'.os.trans h.os, h'.tape.trans h.tape, h'.output.trans h.output, Nat.le_trans h.size h'.size, fun q hq hne => (h'.block q (Nat.lt_of_lt_of_le hq h.size) hne).trans (h.block q hq hne)⟩
theorem grown_weak {w w' : World} (h : w.grownBy w' none) (row : Option Nat) : w.grownBy w' row := ⟨h.os, h.tape, h.output, h.size, fun q hq _ => h.block q hq (by intro e; cases e)⟩
theorem grown_of_below {w w' : World} (h : Below w.heap.size w w') (row : Option Nat) : w.grownBy w' row := ⟨h.os, h.tape, h.output, h.size, fun q hq _ => h.block q hq⟩
theorem below_of_grown {B : Nat} {w w' : World} {g : Nat} (h : w.grownBy w' (some g)) (hB : B ≤ w.heap.size) (hg : B ≤ g) : Below B w w' := ⟨h.os, h.tape, h.output, h.size, fun q hq => h.block q (by omega) (by intro e; cases e; omega)⟩
end Go.Proofs.YtjkmfonngbendaaGreatDoor.Ar
