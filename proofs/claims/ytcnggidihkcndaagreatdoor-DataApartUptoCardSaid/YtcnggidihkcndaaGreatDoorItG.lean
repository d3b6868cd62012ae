/- A right list rises by key; contract of package item's Get. -/
import Derived.Test.YtcnggidihkcndaaGreatDoorItF
namespace Go.Proofs.YtcnggidihkcndaaGreatDoor.It
set_option linter.unusedVariables false
set_option maxRecDepth 100000
open Go.ChangeShapes Go.WideShapes Go.ChangeAt Go.RowKit
open Ar Rg St
/-- a list that rises by key, no key twice -/
def Up (D : List Itm) : Prop := D.Pairwise fun a b => lt (key a) (key b) = true
theorem rtFrom_some : ∀ (D : List Itm) (y : Itm), rtFrom (some y) D = true → (∀ x ∈ D, lt (key y) (key x) = true) ∧ Up D ∧ ∀ x ∈ D, okI x = true
  | [], y, _ => ⟨by simp, List.Pairwise.nil, by simp⟩
  | x :: r, y, h => by
    have h' : (okI x && (By.bl (key y) (key x) && rtFrom (some x) r)) = true := h
    rw [Bool.and_eq_true, Bool.and_eq_true] at h'
    obtain ⟨h1, h2, h3⟩ := rtFrom_some r x h'.2.2
    refine ⟨?_, List.pairwise_cons.2 ⟨h1, h2⟩, ?_⟩
    · intro z hz
      rcases List.mem_cons.1 hz with rfl | hz
      · exact h'.2.1
      · exact O.trans _ _ _ h'.2.1 (h1 z hz)
    · intro z hz
      rcases List.mem_cons.1 hz with rfl | hz
      · exact h'.1
      · exact h3 z hz
theorem rt_up {D : List Itm} (h : rt D = true) : Up D ∧ ∀ x ∈ D, okI x = true := by
  cases D with
  | nil => exact ⟨List.Pairwise.nil, by simp⟩
  | cons x r =>
    have h' : (okI x && rtFrom (some x) r) = true := h
    rw [Bool.and_eq_true] at h'
    obtain ⟨h1, h2, h3⟩ := rtFrom_some r x h'.2
    refine ⟨List.pairwise_cons.2 ⟨h1, h2⟩, ?_⟩
    intro z hz
    rcases List.mem_cons.1 hz with rfl | hz
    · exact h'.1
    · exact h3 z hz
theorem Up.srt {D : List Itm} (h : Up D) : Srt key lt D := List.Pairwise.imp (fun hab => O.asymm _ _ hab) h
/-- what a right list has by a key -/
def get (D : List Itm) (k : ByteArray) : Option ByteArray := (D.find? fun x => decide (key x = k.data.toList)).map (·.v)
theorem get_found {D : List Itm} {k : ByteArray} {p : Nat} {y : Itm} (h : At D k p) (hy : D[p]? = some y) (hf : key y = k.data.toList) : get D k = some y.v := by
  obtain ⟨hp, h1, h2⟩ := h
  have e : D = D.take p ++ y :: D.drop (p + 1) := by rw [← drop_at hy, List.take_append_drop]
  unfold get
  rw [e, List.find?_append]
  have hn : (D.take p).find? (fun x => decide (key x = k.data.toList)) = none := by
    rw [List.find?_eq_none]
    intro x hx
    have := O.ne (h1 x hx)
    simpa using this
  rw [hn, Option.none_or, List.find?_cons_of_pos (by simpa using hf)]
  rfl
theorem get_none {D : List Itm} {k : ByteArray} {p : Nat} (hu : Up D) (h : At D k p) (hf : found D k p = false) : get D k = none := by
  obtain ⟨hp, h1, h2⟩ := h
  unfold get
  rw [Option.map_eq_none_iff, List.find?_eq_none]
  intro x hx
  rw [← List.take_append_drop p D] at hx
  rcases List.mem_append.1 hx with hx | hx
  · have := O.ne (h1 x hx)
    simpa using this
  · rcases Nat.lt_or_ge p D.length with hl | hl
    · have hz : D[p]? = some (D[p]'hl) := List.getElem?_eq_getElem _
      rw [found_at hz, decide_eq_false_iff_not] at hf
      have e := drop_at hz
      have hu2 : Up (D.drop p) := List.Pairwise.sublist (List.drop_sublist _ _) hu
      rw [e] at hx hu2
      have hge := h2 D[p] (by rw [e]; exact List.mem_cons_self)
      rcases List.mem_cons.1 hx with rfl | hx
      · simpa using hf
      · have hlt := (List.pairwise_cons.1 hu2).1 x hx
        have hk : lt k.data.toList (key D[p]) = true := by
          cases h3 : lt k.data.toList (key D[p])
          · exact absurd (O.tri _ _ hge h3) hf
          · rfl
        have := O.ne (O.trans _ _ _ hk hlt)
        simp only [decide_eq_true_eq]
        exact fun e => this e.symm
    · rw [List.drop_eq_nil_of_le hl] at hx
      cases hx
def getV (r : Bool) (o : Option ByteArray) : Value :=
  if r then (match o with | some v => .tuple #[.string v, .int .i64 0] | none => .tuple #[.string { data := #[] }, .int .i64 5]) else .tuple #[.string { data := #[] }, .int .i64 4]
end Go.Proofs.YtcnggidihkcndaaGreatDoor.It
