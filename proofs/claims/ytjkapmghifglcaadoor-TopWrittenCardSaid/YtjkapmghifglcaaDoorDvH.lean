/- What slices' CompactFunc makes of a list of blocks, as a function on lists (cm); no walk here. -/
import Derived.Test.YtjkapmghifglcaaDoorDvG
namespace Go.Proofs.YtjkapmghifglcaaDoor.Dv
set_option linter.unusedVariables false
open Ar Rg St
/-- the place q does not repeat the number that stands before it -/
def nw (L : List Bk) (q : Nat) : Bool := decide (q = 0) || !decide ((L[q]?).map key = (L[q - 1]?).map key)
/-- the first q of L, of each run of one number the first alone -/
def cm (L : List Bk) : Nat → List Bk
  | 0 => []
  | q + 1 => cm L q ++ (if nw L q then (L[q]?).toList else [])
theorem nw_at {L : List Bk} {q : Nat} {x y : Bk} (hx : L[q + 1]? = some x) (hy : L[q]? = some y) : nw L (q + 1) = !decide (x.n = y.n) := by
  unfold nw
  rw [Nat.add_sub_cancel, hx, hy]
  simp [key]
theorem cm_len (L : List Bk) (q : Nat) : (cm L q).length ≤ q := by
  induction q with
  | zero => exact Nat.le_refl _
  | succ q ih =>
    unfold cm
    rw [List.length_append]
    have : (if nw L q then (L[q]?).toList else []).length ≤ 1 := by
      split
      · cases L[q]? <;> simp
      · simp
    omega
theorem cm_one (L : List Bk) : cm L 1 = L.take 1 := by
  unfold cm cm nw
  cases L <;> simp
theorem cm_plain {L : List Bk} {q : Nat} (h : cm L q = L.take q) (hn : nw L q = true) : cm L (q + 1) = L.take (q + 1) := by
  unfold cm
  rw [h, if_pos hn, List.take_add_one]
structure CmI (L M : List Bk) (q k : Nat) : Prop where
  len : M.length = L.length
  done : M.take k = cm L q
  num : k = (cm L q).length
  rest : M.drop (q - 1) = L.drop (q - 1)
  low : k + 1 ≤ q
theorem CmI.start {L : List Bk} {q : Nat} (h : cm L q = L.take q) (hq : 1 ≤ q) (hl : q < L.length) (hn : nw L q = false) : CmI L L (q + 1) q := by
  have e : cm L (q + 1) = L.take q := by
    unfold cm
    rw [h, hn]
    simp
  refine ⟨rfl, e.symm, ?_, rfl, Nat.le_refl _⟩
  rw [e, List.length_take]
  omega
theorem CmI.get {L M : List Bk} {q k i : Nat} (h : CmI L M q k) (hi : q ≤ i + 1) : M[i]? = L[i]? := by
  have e := congrArg (fun l : List Bk => l[i - (q - 1)]?) h.rest
  simp only [List.getElem?_drop] at e
  rw [show q - 1 + (i - (q - 1)) = i by omega] at e
  exact e
theorem CmI.old {L M : List Bk} {q k : Nat} (h : CmI L M q k) (hn : nw L q = false) : CmI L M (q + 1) k := by
  have e : cm L (q + 1) = cm L q := by
    rw [cm, hn]
    simp
  refine ⟨h.len, e ▸ h.done, e ▸ h.num, ?_, Nat.le_succ_of_le h.low⟩
  have hl := h.low
  have e2 := congrArg (List.drop 1) h.rest
  rw [List.drop_drop, List.drop_drop, show q - 1 + 1 = q by omega] at e2
  exact e2
theorem CmI.new {L M : List Bk} {q k : Nat} {x : Bk} (h : CmI L M q k) (hx : L[q]? = some x) (hn : nw L q = true) : CmI L (M.set k x) (q + 1) (k + 1) := by
  have e : cm L (q + 1) = cm L q ++ [x] := by
    rw [cm, hn, hx]
    rfl
  have hl := h.low
  have hq := (List.getElem?_eq_some_iff.1 hx).1
  have hk : k < M.length := by rw [h.len]; omega
  refine ⟨by rw [List.length_set, h.len], ?_, ?_, ?_, by omega⟩
  · rw [e, ← h.done, List.take_add_one, List.take_set_of_le (Nat.le_refl _), List.getElem?_set_self hk]
    rfl
  · rw [e, List.length_append, ← h.num]
    rfl
  · rw [List.drop_set_of_lt (by omega)]
    have e2 := congrArg (List.drop 1) h.rest
    rw [List.drop_drop, List.drop_drop, show q - 1 + 1 = q by omega] at e2
    exact e2
theorem same_at (x y : Bk) (c : Bool) (hc : decide (x.n = y.n) = c) (w : World) : Calls Tryd.prog 71 #[.agg (enc x).toArray, .agg (enc y).toArray] w fun e w' => e = .returned (.bool c) ∧ w.grownBy w' none := by
  subst hc
  exact (sameNum_any x y w).mono fun e w' ⟨he, hb⟩ => ⟨he, ⟨hb.os, hb.tape, hb.output, hb.size, fun k hk _ => hb.block k hk⟩⟩
end Go.Proofs.YtjkapmghifglcaaDoor.Dv
