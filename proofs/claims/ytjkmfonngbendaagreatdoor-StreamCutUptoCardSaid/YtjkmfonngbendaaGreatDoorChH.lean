/- What a merge of two sorted stretches by halves comes to: the search's result, the three calls behind it. -/
import Derived.Test.YtjkmfonngbendaaGreatDoorChG
namespace Go.Proofs.YtjkmfonngbendaaGreatDoor.Sc
set_option linter.unusedVariables false
set_option maxRecDepth 100000
open Go.ChangeShapes Go.WideShapes Go.ChangeAt Go.RowKit
open Ar Rg St
theorem sym_pure {X Y : List Ch} {i j : Nat} (hX : Srt key lt X) (hY : Srt key lt Y)
    (h1 : i = 0 ∨ j = Y.length ∨ ∃ y x, Y[j]? = some y ∧ X[i - 1]? = some x ∧ lt (key y) (key x) = false)
    (h2 : j = 0 ∨ i = X.length ∨ ∃ y x, Y[j - 1]? = some y ∧ X[i]? = some x ∧ lt (key y) (key x) = true) :
    (∀ x ∈ X.take i, ∀ y ∈ Y.drop j, lt (key y) (key x) = false) ∧ (∀ y ∈ Y.take j, ∀ x ∈ X.drop i, lt (key y) (key x) = true) := by
  constructor
  · rcases h1 with rfl | rfl | ⟨y, x, hy, hx, h⟩
    · simp
    · simp
    · intro x' hx' y' hy'
      exact drop_ge hY (.inr ⟨y, hy, take_ge hX (.inr ⟨x, hx, h⟩) x' hx'⟩) y' hy'
  · rcases h2 with rfl | rfl | ⟨y, x, hy, hx, h⟩
    · simp
    · simp
    · intro y' hy' x' hx'
      exact take_lt hY (.inr ⟨y, hy, drop_lt hX (.inr ⟨x, hx, h⟩) x' hx'⟩) y' hy'
def GC (D : List Ch) (p c : Nat) : Bool := match D[p - c]?, D[c]? with | some u, some z => lt (key u) (key z) | _, _ => false
theorem GC_at {D : List Ch} {p c : Nat} {u z : Ch} (h1 : D[p - c]? = some u) (h2 : D[c]? = some z) : GC D p c = lt (key u) (key z) := by
  unfold GC; rw [h1, h2]
theorem get_X (P X Y R : List Ch) (i : Nat) (h : i < X.length) : (P ++ (X ++ (Y ++ R)))[P.length + i]? = some X[i] := by
  rw [List.getElem?_append_right (by omega), show P.length + i - P.length = i by omega, List.getElem?_append_left h, List.getElem?_eq_getElem h]
theorem get_Y (P X Y R : List Ch) (i : Nat) (h : i < Y.length) : (P ++ (X ++ (Y ++ R)))[P.length + X.length + i]? = some Y[i] := by
  rw [List.getElem?_append_right (by omega), List.getElem?_append_right (by omega), show P.length + X.length + i - P.length - X.length = i by omega, List.getElem?_append_left h, List.getElem?_eq_getElem h]
structure Four (n : Nat) (P X1 X2 Y1 Y2 R : List Ch) (N A S M E B Q : Nat) : Prop where
  hN : (P ++ ((X1 ++ X2) ++ ((Y1 ++ Y2) ++ R))).length = N
  hA : P.length = A
  hS : A + X1.length = S
  hM : S + X2.length = M
  hE : M + Y1.length = E
  hB : E + Y2.length = B
  hQ : S + Y1.length = Q
  hAQ : A < Q
  hQB : Q < B
  hn : B - A ≤ n
  sX : Srt key lt (X1 ++ X2)
  sY : Srt key lt (Y1 ++ Y2)
  h12 : ∀ x ∈ X1, ∀ y ∈ Y2, lt (key y) (key x) = false
  h21 : ∀ y ∈ Y1, ∀ x ∈ X2, lt (key y) (key x) = true
theorem four_make {n : Nat} {P X Y R D : List Ch} {N A M B Q S0 R0 s : Nat} (hD : D = P ++ (X ++ (Y ++ R))) (hN : N = D.length) (hA : A = P.length) (hM : M = A + X.length) (hB : B = M + Y.length) (q1 : 2 * Q ≤ A + B) (q2 : A + B < 2 * Q + 2) (hX : 1 < X.length) (hY : 1 < Y.length) (hn : B - A ≤ n)
    (hc : (Q < M ∧ S0 = Q + M - B ∧ R0 = Q) ∨ (M ≤ Q ∧ S0 = A ∧ R0 = M)) (sX : Srt key lt X) (sY : Srt key lt Y) (h : Bs (GC D (Q + M - 1)) S0 R0 s s) :
    ∃ X1 X2 Y1 Y2, X = X1 ++ X2 ∧ Y = Y1 ++ Y2 ∧ Four n P X1 X2 Y1 Y2 R N A s M (Q + M - s) B Q := by
  obtain ⟨b1, _, b2, b3, b4⟩ := h
  have c1 : A ≤ s := by omega
  have c2 : s ≤ M := by omega
  have c3 : s ≤ Q := by omega
  have c4 : Q - s ≤ Y.length := by omega
  have hp := sym_pure (i := s - A) (j := Q - s) sX sY (by
    rcases b3 with b3 | b3
    · rcases hc with hc | hc
      · right; left; omega
      · left; omega
    · by_cases e1 : s - A = 0
      · exact .inl e1
      by_cases e2 : Q - s = Y.length
      · exact .inr (.inl e2)
      right; right
      have g1 := get_Y P X Y R (Q - s) (by omega)
      have g2 := get_X P X Y R (s - A - 1) (by omega)
      rw [← hD, ← hA] at g1 g2
      rw [show A + X.length + (Q - s) = Q + M - 1 - (s - 1) by omega] at g1
      rw [show A + (s - A - 1) = s - 1 by omega] at g2
      rw [GC_at g1 g2] at b3
      exact ⟨_, _, List.getElem?_eq_getElem _, List.getElem?_eq_getElem _, b3⟩) (by
    rcases b4 with b4 | b4
    · rcases hc with hc | hc
      · left; omega
      · right; left; omega
    · by_cases e1 : Q - s = 0
      · exact .inl e1
      by_cases e2 : s - A = X.length
      · exact .inr (.inl e2)
      right; right
      have g1 := get_Y P X Y R (Q - s - 1) (by omega)
      have g2 := get_X P X Y R (s - A) (by omega)
      rw [← hD, ← hA] at g1 g2
      rw [show A + X.length + (Q - s - 1) = Q + M - 1 - s by omega] at g1
      rw [show A + (s - A) = s by omega] at g2
      rw [GC_at g1 g2] at b4
      exact ⟨_, _, List.getElem?_eq_getElem _, List.getElem?_eq_getElem _, b4⟩)
  refine ⟨X.take (s - A), X.drop (s - A), Y.take (Q - s), Y.drop (Q - s), (List.take_append_drop _ _).symm, (List.take_append_drop _ _).symm, ?_, hA.symm, ?_, ?_, ?_, ?_, ?_, by omega, by omega, hn, ?_, ?_, hp.1, hp.2⟩
  · rw [List.take_append_drop, List.take_append_drop, ← hD, hN]
  · rw [List.length_take]; omega
  · rw [List.length_drop]; omega
  · rw [List.length_take]; omega
  · rw [List.length_drop]; omega
  · rw [List.length_take]; omega
  · rw [List.take_append_drop]; exact sX
  · rw [List.take_append_drop]; exact sY
def SymOK (n : Nat) : Prop := ∀ (P X Y R D : List Ch), D = P ++ (X ++ (Y ++ R)) → 0 < X.length → 0 < Y.length → X.length + Y.length < n → Srt key lt X → Srt key lt Y → ∀ (g cap N : Nat), N = D.length → N ≤ cap → N ≤ 281474976710656 → ∀ (w : World), Arr enc 3 w g D → ∀ (a m b : Int), a = (P.length : Int) → m = (P.length : Int) + X.length → b = (P.length : Int) + X.length + Y.length →
  Calls Tryz.prog 172 #[.slice (some ⟨g, 0, none⟩) N cap, .int .i64 a, .int .i64 m, .int .i64 b, CMP] w fun e w' => e = .returned (.tuple #[]) ∧ Merged P X Y R g w w'
def S1 (P X1 X2 Y1 Y2 R : List Ch) (g : Nat) (w wr : World) : Prop := Arr enc 3 wr g (P ++ (X1 ++ (Y1 ++ (X2 ++ (Y2 ++ R))))) ∧ w.grownBy wr (some g)
def S2 (P X1 X2 Y1 Y2 R : List Ch) (g : Nat) (w wr : World) : Prop := ∃ Z, Arr enc 3 wr g (P ++ (Z ++ (X2 ++ (Y2 ++ R)))) ∧ Z.length = X1.length + Y1.length ∧ Srt key lt Z ∧ Sm key (X1 ++ Y1) Z ∧ w.grownBy wr (some g)
section
variable {n : Nat} {P X1 X2 Y1 Y2 R : List Ch} {N A S M E B Q g : Nat} {w wr : World}
theorem Four.lenN (F : Four n P X1 X2 Y1 Y2 R N A S M E B Q) : P.length + X1.length + X2.length + Y1.length + Y2.length + R.length = N := by
  have := F.hN
  simp only [List.length_append] at this
  omega
theorem four_rot (F : Four n P X1 X2 Y1 Y2 R N A S M E B Q) (cap : Nat) (hL : N ≤ cap) (hm : N ≤ 281474976710656) (V : Value) (hA : Arr enc 3 wr g (P ++ ((X1 ++ X2) ++ ((Y1 ++ Y2) ++ R)))) (hg : w.grownBy wr (some g)) (h1 : S < M) (h2 : M < E) :
    Calls Tryz.prog 195 #[.slice (some ⟨g, 0, none⟩) N cap, .int .i64 S, .int .i64 M, .int .i64 E, V] wr fun e w' => e = .returned (.tuple #[]) ∧ S1 P X1 X2 Y1 Y2 R g w w' := by
  have := F.hA; have := F.hS; have := F.hM; have := F.hE
  refine (rotate_any (P ++ X1) X2 Y1 (Y2 ++ R) _ (by simp) (by omega) (by omega) g cap N F.hN.symm V hL hm wr hA _ _ _ ?_ ?_ ?_).mono fun e w' h => ⟨h.1, ?_, grown_trans hg h.2.1⟩
  · rw [List.length_append]; omega
  · rw [List.length_append]; omega
  · rw [List.length_append]; omega
  · have e : P ++ (X1 ++ (Y1 ++ (X2 ++ (Y2 ++ R)))) = P ++ X1 ++ (Y1 ++ (X2 ++ (Y2 ++ R))) := by simp only [List.append_assoc]
    rw [e]
    exact h.2.2
theorem four_rot' (F : Four n P X1 X2 Y1 Y2 R N A S M E B Q) (hA : Arr enc 3 wr g (P ++ ((X1 ++ X2) ++ ((Y1 ++ Y2) ++ R)))) (hg : w.grownBy wr (some g)) (h : ¬ (S < M ∧ M < E)) : S1 P X1 X2 Y1 Y2 R g w wr := by
  have := F.hM; have := F.hE
  refine ⟨?_, hg⟩
  by_cases h1 : S < M
  · have : Y1 = [] := List.eq_nil_of_length_eq_zero (by omega)
    subst this
    simpa using hA
  · have : X2 = [] := List.eq_nil_of_length_eq_zero (by omega)
    subst this
    simpa using hA
theorem four_one (IH : SymOK n) (F : Four n P X1 X2 Y1 Y2 R N A S M E B Q) (cap : Nat) (hL : N ≤ cap) (hm : N ≤ 281474976710656) (h : S1 P X1 X2 Y1 Y2 R g w wr) (h1 : A < S) (h2 : S < Q) :
    Calls Tryz.prog 172 #[.slice (some ⟨g, 0, none⟩) N cap, .int .i64 A, .int .i64 S, .int .i64 Q, CMP] wr fun e w' => e = .returned (.tuple #[]) ∧ S2 P X1 X2 Y1 Y2 R g w w' := by
  obtain ⟨hA, hg⟩ := h
  have := F.hA; have := F.hS; have := F.hM; have := F.hE; have := F.hB; have := F.hQ; have := F.hQB; have := F.hn; have hl := F.lenN
  refine (IH P X1 Y1 (X2 ++ (Y2 ++ R)) _ rfl (by omega) (by omega) (by omega) (Srt.append.1 F.sX).1 (Srt.append.1 F.sY).1 g cap N ?_ hL hm wr hA _ _ _ ?_ ?_ ?_).mono fun e w' h => ⟨h.1, ?_⟩
  · simp only [List.length_append]; omega
  · omega
  · omega
  · omega
  · obtain ⟨Z, z1, z2, z3, z4, z5⟩ := h.2
    exact ⟨Z, z1, z2, z3, z4, grown_trans hg z5⟩
theorem four_one' (F : Four n P X1 X2 Y1 Y2 R N A S M E B Q) (h : S1 P X1 X2 Y1 Y2 R g w wr) (hc : ¬ (A < S ∧ S < Q)) : S2 P X1 X2 Y1 Y2 R g w wr := by
  obtain ⟨hA, hg⟩ := h
  have := F.hS; have := F.hQ
  refine ⟨X1 ++ Y1, by rw [List.append_assoc]; exact hA, by rw [List.length_append], ?_, Sm.refl _, hg⟩
  by_cases h1 : A < S
  · have : Y1 = [] := List.eq_nil_of_length_eq_zero (by omega)
    subst this
    simpa using (Srt.append.1 F.sX).1
  · have : X1 = [] := List.eq_nil_of_length_eq_zero (by omega)
    subst this
    simpa using (Srt.append.1 F.sY).1
theorem four_end (F : Four n P X1 X2 Y1 Y2 R N A S M E B Q) {Z Z2 : List Ch} (hA : Arr enc 3 wr g (P ++ (Z ++ (Z2 ++ R)))) (z2 : Z.length = X1.length + Y1.length) (z3 : Srt key lt Z) (z4 : Sm key (X1 ++ Y1) Z) (y2 : Z2.length = X2.length + Y2.length) (y3 : Srt key lt Z2) (y4 : Sm key (X2 ++ Y2) Z2) (hg : w.grownBy wr (some g)) : Merged P (X1 ++ X2) (Y1 ++ Y2) R g w wr := by
  have hm := merged O F.sX F.sY F.h12 F.h21 z4 z3 y4 y3
  refine ⟨Z ++ Z2, by rw [List.append_assoc]; exact hA, ?_, hm.2, hm.1, hg⟩
  simp only [List.length_append]; omega
theorem four_two (IH : SymOK n) (F : Four n P X1 X2 Y1 Y2 R N A S M E B Q) (cap : Nat) (hL : N ≤ cap) (hm : N ≤ 281474976710656) (h : S2 P X1 X2 Y1 Y2 R g w wr) (h1 : Q < E) (h2 : E < B) :
    Calls Tryz.prog 172 #[.slice (some ⟨g, 0, none⟩) N cap, .int .i64 Q, .int .i64 E, .int .i64 B, CMP] wr fun e w' => e = .returned (.tuple #[]) ∧ Merged P (X1 ++ X2) (Y1 ++ Y2) R g w w' := by
  obtain ⟨Z, z1, z2, z3, z4, z5⟩ := h
  have := F.hA; have := F.hS; have := F.hM; have := F.hE; have := F.hB; have := F.hQ; have := F.hAQ; have := F.hn; have hl := F.lenN
  refine (IH (P ++ Z) X2 Y2 R _ (by simp only [List.append_assoc]) (by omega) (by omega) (by omega) (Srt.append.1 F.sX).2.1 (Srt.append.1 F.sY).2.1 g cap N ?_ hL hm wr z1 _ _ _ ?_ ?_ ?_).mono fun e w' h => ⟨h.1, ?_⟩
  · simp only [List.length_append]; omega
  · rw [List.length_append]; omega
  · rw [List.length_append]; omega
  · rw [List.length_append]; omega
  · obtain ⟨Z2, y1, y2, y3, y4, y5⟩ := h.2
    rw [List.append_assoc] at y1
    exact four_end F y1 z2 z3 z4 y2 y3 y4 (grown_trans z5 y5)
theorem four_two' (F : Four n P X1 X2 Y1 Y2 R N A S M E B Q) (h : S2 P X1 X2 Y1 Y2 R g w wr) (hc : ¬ (Q < E ∧ E < B)) : Merged P (X1 ++ X2) (Y1 ++ Y2) R g w wr := by
  obtain ⟨Z, z1, z2, z3, z4, z5⟩ := h
  have := F.hS; have := F.hM; have := F.hE; have := F.hB; have := F.hQ
  refine four_end F (Z2 := X2 ++ Y2) (by rw [List.append_assoc]; exact z1) z2 z3 z4 (by rw [List.length_append]) ?_ (Sm.refl _) z5
  by_cases h1 : Q < E
  · have : Y2 = [] := List.eq_nil_of_length_eq_zero (by omega)
    subst this
    simpa using (Srt.append.1 F.sX).2.1
  · have : X2 = [] := List.eq_nil_of_length_eq_zero (by omega)
    subst this
    simpa using (Srt.append.1 F.sY).2.1
end
end Go.Proofs.YtjkmfonngbendaaGreatDoor.Sc
