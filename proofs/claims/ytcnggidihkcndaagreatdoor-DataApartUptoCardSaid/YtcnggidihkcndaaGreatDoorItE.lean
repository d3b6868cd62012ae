/- Contract of package item's place: where a key stands in a list, by halves. -/
import Derived.Test.YtcnggidihkcndaaGreatDoorItB
import Derived.Test.YtcnggidihkcndaaGreatDoorChE
namespace Go.Proofs.YtcnggidihkcndaaGreatDoor.It
set_option linter.unusedVariables false
set_option maxRecDepth 100000
open Go.ChangeShapes Go.WideShapes Go.ChangeAt Go.RowKit
open Ar Rg St
abbrev lt := By.bl
theorem O : Ord lt := By.blOrd
def icf (x : Itm) (k : ByteArray) : Int := Lib.compareBytes (key x) k.data.toList
theorem placeCmp_any (x : Itm) (k : ByteArray) (w : World) :
    Calls Tryz.prog 46 #[.agg (enc x).toArray, .string k] w fun e w' => e = .returned (.int .i64 (icf x k)) ∧ Below w.heap.size w w' := by
  show Calls Tryz.prog 46 #[.agg #[.string x.k, .string x.v], .string k] w _
  have HG := Lib.hid (show Below w.heap.size w (w.alloc (.cells #[.string x.k, .string x.v] 55)) from (Below.refl _ w).alloc (Nat.le_refl _) _)
  go_enter Tryz.func46, Tryz.ntmps46
  go_wp2_with (go_at_call 34; refine (Sc.compare_any _ _ _).mono ?_; rintro e w' ⟨rfl, rfl⟩)
  go_ret
  exact ⟨rfl, HG.out⟩
theorem take_ltI {Y : List Itm} {p : Nat} {k : List UInt8} (hs : Srt key lt Y) (h : p = 0 ∨ ∃ z, Y[p - 1]? = some z ∧ lt (key z) k = true) : ∀ y ∈ Y.take p, lt (key y) k = true := by
  rcases h with rfl | ⟨z, hz, hlt⟩
  · simp
  · rcases Nat.eq_zero_or_pos p with h0 | h0
    · subst h0; simp
    · intro y hy
      have e : Y.take p = Y.take (p - 1) ++ [z] := by
        rw [show p = (p - 1) + 1 by omega, List.take_add_one, show (p - 1 + 1) - 1 = p - 1 by omega] 
        rw [hz]; rfl
      rw [e] at hy
      have hs' : Srt key lt (Y.take (p - 1) ++ [z]) := by rw [← e]; exact List.Pairwise.sublist (List.take_sublist _ _) hs
      rcases List.mem_append.1 hy with hy | hy
      · exact O.le_lt ((Srt.append.1 hs').2.2 y hy z (by simp)) hlt
      · simp at hy; subst hy; exact hlt
theorem drop_geI {Y : List Itm} {p : Nat} {k : List UInt8} (hs : Srt key lt Y) (h : p = Y.length ∨ ∃ z, Y[p]? = some z ∧ lt (key z) k = false) : ∀ y ∈ Y.drop p, lt (key y) k = false := by
  rcases h with rfl | ⟨z, hz, hlt⟩
  · simp
  · obtain ⟨hp, e⟩ := List.getElem?_eq_some_iff.1 hz
    have e2 : Y.drop p = z :: Y.drop (p + 1) := by rw [List.drop_eq_getElem_cons hp, e]
    have hs' : Srt key lt (z :: Y.drop (p + 1)) := by rw [← e2]; exact List.Pairwise.sublist (List.drop_sublist _ _) hs
    rw [e2]
    intro y hy
    rcases List.mem_cons.1 hy with rfl | hy
    · exact hlt
    · have : Srt key lt ([z] ++ Y.drop (p + 1)) := hs'
      exact O.le_trans hlt ((Srt.append.1 this).2.2 z (by simp) y hy)
def GI (D : List Itm) (k : ByteArray) (c : Nat) : Bool := match D[c]? with | some z => !lt (key z) k.data.toList | none => false
theorem GI_at {D : List Itm} {k : ByteArray} {z : Itm} {c : Nat} (h : D[c]? = some z) : GI D k c = !lt (key z) k.data.toList := by unfold GI; rw [h]
/-- p is where a key stands, or would stand -/
def At (D : List Itm) (k : ByteArray) (p : Nat) : Prop := p ≤ D.length ∧ (∀ y ∈ D.take p, lt (key y) k.data.toList = true) ∧ (∀ y ∈ D.drop p, lt (key y) k.data.toList = false)
def found (D : List Itm) (k : ByteArray) (p : Nat) : Bool := match D[p]? with | some y => decide (key y = k.data.toList) | none => false
theorem at_of {D : List Itm} {k : ByteArray} {p : Nat} (hs : Srt key lt D) (h : Sc.Bs (GI D k) 0 D.length p p) : At D k p := by
  obtain ⟨_, _, h1, h2, h3⟩ := h
  refine ⟨h1, take_ltI hs ?_, drop_geI hs ?_⟩
  · rcases h2 with h2 | h2
    · exact .inl h2
    · rcases Nat.eq_zero_or_pos p with h0 | h0
      · exact .inl h0
      · have hz : D[p - 1]? = some (D[p - 1]'(by omega)) := List.getElem?_eq_getElem _
        rw [GI_at hz] at h2
        exact .inr ⟨_, hz, by simpa using h2⟩
  · rcases h3 with h3 | h3
    · exact .inl h3
    · rcases Nat.lt_or_ge p D.length with h0 | h0
      · have hz : D[p]? = some (D[p]'h0) := List.getElem?_eq_getElem _
        rw [GI_at hz] at h3
        exact .inr ⟨_, hz, by simpa using h3⟩
      · exact .inl (by omega)
end Go.Proofs.YtcnggidihkcndaaGreatDoor.It
