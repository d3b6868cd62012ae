/- Contract of package slices' symMergeCmpFunc at changes, where one of the two stretches has one element alone. -/
import Derived.Test.YtjkmfonngbendaaGreatDoorChD
namespace Go.Proofs.YtjkmfonngbendaaGreatDoor.Sc
set_option linter.unusedVariables false
set_option maxRecDepth 100000
open Go.ChangeShapes Go.WideShapes Go.ChangeAt Go.RowKit
open Ar Rg St
/-- a search by halves, between L0 and H0: below lo the test says no, at hi it says yes -/
def Bs (G : Nat → Bool) (L0 H0 lo hi : Nat) : Prop := L0 ≤ lo ∧ lo ≤ hi ∧ hi ≤ H0 ∧ (lo = L0 ∨ G (lo - 1) = false) ∧ (hi = H0 ∨ G hi = true)
theorem Bs.start (G : Nat → Bool) {L0 H0 : Nat} (h : L0 ≤ H0) : Bs G L0 H0 L0 H0 := ⟨Nat.le_refl _, h, Nat.le_refl _, .inl rfl, .inl rfl⟩
theorem Bs.up {G : Nat → Bool} {L0 H0 lo hi c : Nat} (h : Bs G L0 H0 lo hi) (h1 : lo ≤ c) (h2 : c < hi) (hc : G c = false) : Bs G L0 H0 (c + 1) hi := ⟨by have := h.1; omega, by omega, h.2.2.1, .inr hc, h.2.2.2.2⟩
theorem Bs.down {G : Nat → Bool} {L0 H0 lo hi c : Nat} (h : Bs G L0 H0 lo hi) (h1 : lo ≤ c) (h2 : c < hi) (hc : G c = true) : Bs G L0 H0 lo c := ⟨h.1, h1, by have := h.2.2.1; omega, h.2.2.2.1, .inr hc⟩
def Merged (P X Y R : List Ch) (g : Nat) (w w' : World) : Prop := ∃ Z : List Ch, Arr enc 3 w' g (P ++ (Z ++ R)) ∧ Z.length = X.length + Y.length ∧ Srt key lt Z ∧ Sm key (X ++ Y) Z ∧ w.grownBy w' (some g)
theorem take_lt {Y : List Ch} {p : Nat} {k : List UInt8} (hs : Srt key lt Y) (h : p = 0 ∨ ∃ z, Y[p - 1]? = some z ∧ lt (key z) k = true) : ∀ y ∈ Y.take p, lt (key y) k = true := by
  rcases h with rfl | ⟨z, hz, hlt⟩
  · simp
  · rcases Nat.eq_zero_or_pos p with h0 | h0
    · subst h0; simp
    · intro y hy
      have e : Y.take p = Y.take (p - 1) ++ [z] := by
        rw [show p = (p - 1) + 1 by omega, List.take_add_one, show (p - 1 + 1) - 1 = p - 1 by omega] 
        rw [hz]; rfl
      rw [e] at hy
      have hs' : Srt key lt (Y.take (p - 1) ++ [z]) := by rw [← e]; exact List.Pairwise.sublist (List.take_sublist _ _) hs
      rcases List.mem_append.1 hy with hy | hy
      · exact O.le_lt ((Srt.append.1 hs').2.2 y hy z (by simp)) hlt
      · simp at hy; subst hy; exact hlt
theorem take_ge {Y : List Ch} {p : Nat} {k : List UInt8} (hs : Srt key lt Y) (h : p = 0 ∨ ∃ z, Y[p - 1]? = some z ∧ lt k (key z) = false) : ∀ y ∈ Y.take p, lt k (key y) = false := by
  rcases h with rfl | ⟨z, hz, hlt⟩
  · simp
  · rcases Nat.eq_zero_or_pos p with h0 | h0
    · subst h0; simp
    · intro y hy
      have e : Y.take p = Y.take (p - 1) ++ [z] := by
        rw [show p = (p - 1) + 1 by omega, List.take_add_one, show (p - 1 + 1) - 1 = p - 1 by omega] 
        rw [hz]; rfl
      rw [e] at hy
      have hs' : Srt key lt (Y.take (p - 1) ++ [z]) := by rw [← e]; exact List.Pairwise.sublist (List.take_sublist _ _) hs
      rcases List.mem_append.1 hy with hy | hy
      · exact O.le_trans ((Srt.append.1 hs').2.2 y hy z (by simp)) hlt
      · simp at hy; subst hy; exact hlt
theorem drop_ge {Y : List Ch} {p : Nat} {k : List UInt8} (hs : Srt key lt Y) (h : p = Y.length ∨ ∃ z, Y[p]? = some z ∧ lt (key z) k = false) : ∀ y ∈ Y.drop p, lt (key y) k = false := by
  rcases h with rfl | ⟨z, hz, hlt⟩
  · simp
  · obtain ⟨hp, e⟩ := List.getElem?_eq_some_iff.1 hz
    have e2 : Y.drop p = z :: Y.drop (p + 1) := by rw [List.drop_eq_getElem_cons hp, e]
    have hs' : Srt key lt (z :: Y.drop (p + 1)) := by rw [← e2]; exact List.Pairwise.sublist (List.drop_sublist _ _) hs
    rw [e2]
    intro y hy
    rcases List.mem_cons.1 hy with rfl | hy
    · exact hlt
    · have : Srt key lt ([z] ++ Y.drop (p + 1)) := hs'
      exact O.le_trans hlt ((Srt.append.1 this).2.2 z (by simp) y hy)
theorem drop_lt {Y : List Ch} {p : Nat} {k : List UInt8} (hs : Srt key lt Y) (h : p = Y.length ∨ ∃ z, Y[p]? = some z ∧ lt k (key z) = true) : ∀ y ∈ Y.drop p, lt k (key y) = true := by
  rcases h with rfl | ⟨z, hz, hlt⟩
  · simp
  · obtain ⟨hp, e⟩ := List.getElem?_eq_some_iff.1 hz
    have e2 : Y.drop p = z :: Y.drop (p + 1) := by rw [List.drop_eq_getElem_cons hp, e]
    have hs' : Srt key lt (z :: Y.drop (p + 1)) := by rw [← e2]; exact List.Pairwise.sublist (List.drop_sublist _ _) hs
    rw [e2]
    intro y hy
    rcases List.mem_cons.1 hy with rfl | hy
    · exact hlt
    · have : Srt key lt ([z] ++ Y.drop (p + 1)) := hs'
      exact O.lt_le hlt ((Srt.append.1 this).2.2 z (by simp) y hy)
/-- one element, put where it belongs among sorted ones, from the left, or from the right -/
theorem one_left {x : Ch} {Y : List Ch} {p : Nat} (hs : Srt key lt Y) (h1 : ∀ y ∈ Y.take p, lt (key y) (key x) = true) (h2 : ∀ y ∈ Y.drop p, lt (key y) (key x) = false) :
    Srt key lt (Y.take p ++ x :: Y.drop p) ∧ Sm key ([x] ++ Y) (Y.take p ++ x :: Y.drop p) := by
  refine ⟨Srt.put (by rw [List.take_append_drop]; exact hs) (fun y hy => O.asymm _ _ (h1 y hy)) h2, ?_⟩
  have e1 : [x] ++ Y = ([x] ++ Y.take p) ++ Y.drop p := by rw [List.append_assoc, List.take_append_drop]
  have e2 : Y.take p ++ x :: Y.drop p = (Y.take p ++ [x]) ++ Y.drop p := by simp
  rw [e1, e2]
  refine Sm.append (Sm.swap fun a ha b hb => ?_) (Sm.refl _)
  simp at ha
  subst ha
  exact (O.ne (h1 b hb)).symm
theorem one_right {y : Ch} {X : List Ch} {p : Nat} (hs : Srt key lt X) (h1 : ∀ x ∈ X.take p, lt (key y) (key x) = false) (h2 : ∀ x ∈ X.drop p, lt (key y) (key x) = true) :
    Srt key lt (X.take p ++ y :: X.drop p) ∧ Sm key (X ++ [y]) (X.take p ++ y :: X.drop p) := by
  refine ⟨Srt.put (by rw [List.take_append_drop]; exact hs) h1 (fun x hx => O.asymm _ _ (h2 x hx)), ?_⟩
  have e1 : X ++ [y] = X.take p ++ (X.drop p ++ [y]) := by rw [← List.append_assoc, List.take_append_drop]
  have e2 : X.take p ++ y :: X.drop p = X.take p ++ ([y] ++ X.drop p) := by simp
  rw [e1, e2]
  refine Sm.append (Sm.refl _) (Sm.swap fun a ha b hb => ?_)
  simp at hb
  subst hb
  exact (O.ne (h2 a ha)).symm
end Go.Proofs.YtjkmfonngbendaaGreatDoor.Sc
