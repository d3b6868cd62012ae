/- Contracts for the laws' walks: slices of items and of changes that are there, whoever made them. -/
import Derived.Test.YtpchkmjpmlbbgaaItV
namespace Go.Proofs.Ytpchkmjpmlbbgaa.It
set_option linter.unusedVariables false
open Go.ChangeShapes Go.WideShapes Go.ChangeAt Go.RowKit
open Ar Rg St
open BigFrame
/-- D is what a slice has -/
def SlI (w : World) (A : Option Addr) (n c : Nat) (D : List Itm) : Prop := n = D.length ∧ n ≤ c ∧ c ≤ maxLen ∧ ∃ B, B ≤ w.heap.size ∧ Ls enc 2 w B A D
def SlC (w : World) (A : Option Addr) (n c : Nat) (D : List Ch) : Prop := n = D.length ∧ n ≤ c ∧ c ≤ maxLen ∧ ∃ B, B ≤ w.heap.size ∧ Ls Sc.enc 3 w B A D
section
variable {w w' w0 : World} {A A' : Option Addr} {n c m c' : Nat} {X Y : List Itm} {C : List Ch}
theorem SlI.below (h : SlI w A n c X) (hb : Below w.heap.size w w') : SlI w' A n c X := by
  obtain ⟨h1, h2, h3, B, hB, hL⟩ := h
  exact ⟨h1, h2, h3, B, Nat.le_trans hB hb.size, hL.below (hb.mono hB)⟩
theorem SlC.below (h : SlC w A n c C) (hb : Below w.heap.size w w') : SlC w' A n c C := by
  obtain ⟨h1, h2, h3, B, hB, hL⟩ := h
  exact ⟨h1, h2, h3, B, Nat.le_trans hB hb.size, hL.below (hb.mono hB)⟩
theorem SlI.of_mk {v : Value} (h : MkI w0 w v X) : ∃ A n c, v = .slice A n c ∧ SlI w A n c X := by
  obtain ⟨A, c, hv, h1, h2, h3⟩ := h.ls enc_len
  exact ⟨A, _, c, hv, rfl, h1, h2, _, Nat.le_refl _, h3⟩
theorem SlC.of_mk {v : Value} (h : MkC w0 w v C) : ∃ A n c, v = .slice A n c ∧ SlC w A n c C := by
  obtain ⟨A, c, hv, h1, h2, h3⟩ := h.ls Sc.enc_len
  exact ⟨A, _, c, hv, rfl, h1, h2, _, Nat.le_refl _, h3⟩
theorem SlC.one (w : World) (x : Ch) (t : TypeId) : SlC (w.alloc (.cells (Sc.enc x).toArray t)) (some ⟨w.heap.size, 0, none⟩) 1 1 [x] :=
  ⟨rfl, Nat.le_refl _, by decide, w.heap.size + 1, by simp, Ls.new _ x _ _ (Nat.lt_succ_self _)⟩
theorem SlC.nil (w : World) : SlC w none 0 0 [] := ⟨rfl, Nat.le_refl _, Nat.zero_le _, 0, Nat.zero_le _, Ls.nil⟩
theorem SlI.at_ (h : SlI w A n c X) {i : Nat} (hi : i < n) : ∃ x b o, X[i]? = some x ∧ A = some ⟨b, o, none⟩ ∧ b < w.heap.size ∧ w.cell? ⟨b, o + i * 2, none⟩ = some (.string x.k) ∧ w.cell? ⟨b, o + i * 2 + 1, none⟩ = some (.string x.v) := by
  obtain ⟨h1, h2, h3, B, hB, hL⟩ := h
  have hx : X[i]? = some (X[i]'(by omega)) := List.getElem?_eq_getElem _
  obtain ⟨b, o, e, hb, hr⟩ := hL i _ hx
  exact ⟨_, b, o, hx, e, by omega, hr 0 _ rfl, hr 1 _ rfl⟩
theorem SlC.at_ (h : SlC w A n c C) {i : Nat} (hi : i < n) : ∃ x b o, C[i]? = some x ∧ A = some ⟨b, o, none⟩ ∧ b < w.heap.size ∧ w.cell? ⟨b, o + i * 3, none⟩ = some (.string x.k) ∧ w.cell? ⟨b, o + i * 3 + 1, none⟩ = some (.bool x.h) ∧ w.cell? ⟨b, o + i * 3 + 2, none⟩ = some (.string x.v) := by
  obtain ⟨h1, h2, h3, B, hB, hL⟩ := h
  have hx : C[i]? = some (C[i]'(by omega)) := List.getElem?_eq_getElem _
  obtain ⟨b, o, e, hb, hr⟩ := hL i _ hx
  exact ⟨_, b, o, hx, e, by omega, hr 0 _ rfl, hr 1 _ rfl, hr 2 _ rfl⟩
theorem diffS (h1 : SlI w A n c X) (h2 : SlI w A' m c' Y) (hl : n ≤ 1099511627776) (hl' : m ≤ 1099511627776) :
    Calls Try.prog 22 #[.slice A n c, .slice A' m c'] w fun e w' => ∃ (A2 : Option Addr) (n2 c2 : Nat), e = .returned (.tuple #[.slice A2 n2 c2, .int .i64 (er (rt X && rt Y))]) ∧ SlC w' A2 n2 c2 (if rt X && rt Y then dif X Y else []) ∧ Below w.heap.size w w' := by
  obtain ⟨a1, a2, a3, B, hB, hL⟩ := h1
  obtain ⟨b1, b2, b3, B', hB', hL'⟩ := h2
  refine (diff_any X Y A A' n c m c' B B' a1 b1 hl hl' w hB hB' hL hL').mono fun e w' h => ?_
  obtain ⟨v, he, hM⟩ := h
  obtain ⟨A2, n2, c2, hv, hS⟩ := SlC.of_mk hM
  exact ⟨A2, n2, c2, by rw [he, hv], hS, hM.2⟩
theorem applyS (h1 : SlI w A n c X) (h2 : SlC w A' m c' C) (hl : n ≤ 1099511627776) (hl' : m ≤ 1099511627776) :
    Calls Try.prog 20 #[.slice A n c, .slice A' m c'] w fun e w' => ∃ (A2 : Option Addr) (n2 c2 : Nat), e = .returned (.tuple #[.slice A2 n2 c2, .int .i64 (er (rt X && rc C))]) ∧ SlI w' A2 n2 c2 (if rt X && rc C then app X C else []) ∧ Below w.heap.size w w' := by
  obtain ⟨a1, a2, a3, B, hB, hL⟩ := h1
  obtain ⟨b1, b2, b3, B', hB', hL'⟩ := h2
  refine (apply_any X C A A' n c m c' B B' a1 a2 a3 b1 hl hl' w hB hB' hL hL').mono fun e w' h => ?_
  obtain ⟨v, he, hM⟩ := h
  obtain ⟨A2, n2, c2, hv, hS⟩ := SlI.of_mk hM
  exact ⟨A2, n2, c2, by rw [he, hv], hS, hM.2⟩
theorem underS (h1 : SlI w A n c X) (p : ByteArray) (hp : p.size ≤ 9223372036854775807) (hl : n ≤ 4398046511104) :
    Calls Try.prog 14 #[.slice A n c, .string p] w fun e w' => ∃ (A2 : Option Addr) (n2 c2 : Nat), e = .returned (.tuple #[.slice A2 n2 c2, .int .i64 (er (rt X))]) ∧ SlI w' A2 n2 c2 (if rt X then und X p else []) ∧ Below w.heap.size w w' := by
  obtain ⟨a1, a2, a3, B, hB, hL⟩ := h1
  refine (under_any X p hp A n c B a1 a2 a3 hl w hB hL).mono fun e w' h => ?_
  obtain ⟨v, he, hM⟩ := h
  obtain ⟨A2, n2, c2, hv, hS⟩ := SlI.of_mk hM
  exact ⟨A2, n2, c2, by rw [he, hv], hS, hM.2⟩
theorem getS (h1 : SlI w A n c X) (k : ByteArray) (hl : n ≤ 4398046511104) :
    Calls Try.prog 12 #[.slice A n c, .string k] w fun e w' => e = .returned (getV (rt X) (get X k)) ∧ Below w.heap.size w w' := by
  obtain ⟨a1, a2, a3, B, hB, hL⟩ := h1
  exact get_any X k A n c B a1 (by omega) w hB hL
theorem checkS (h1 : SlI w A n c X) (hl : n ≤ 4398046511104) :
    Calls Try.prog 18 #[.slice A n c] w fun e w' => e = .returned (errF (rt X)) ∧ Below w.heap.size w w' := by
  obtain ⟨a1, a2, a3, B, hB, hL⟩ := h1
  exact check_any X A n c B a1 (by omega) w hB hL
theorem sameS (h1 : SlI w A n c X) (h2 : SlI w A' m c' Y) (hl : n ≤ 4398046511104) :
    Calls Try.prog 17 #[.slice A n c, .slice A' m c'] w fun e w' => e = .returned (.bool (sm X Y)) ∧ Below w.heap.size w w' := by
  obtain ⟨a1, a2, a3, B, hB, hL⟩ := h1
  obtain ⟨b1, b2, b3, B', hB', hL'⟩ := h2
  exact same_any X Y A A' n c m c' B B' a1 b1 (by omega) w hB hB' hL hL'
end
theorem don_len (c : Ch) : ∀ (D : List Itm) (put : Bool), (donL c put D).length ≤ D.length + 1
  | [], put => by cases put <;> simp [donL]
  | x :: r, true => by
    have := don_len c r true
    rw [donL_true]
    exact Nat.le_trans (List.length_filter_le _ _) (by simp)
  | x :: r, false => by
    rw [donL]
    by_cases h : lt (key x) (ckey c) = true
    · rw [h]
      have := don_len c r false
      have h2 : (if key x = ckey c then [] else [x]).length ≤ 1 := by split <;> simp
      simp only [Bool.not_true, Bool.and_false, Bool.false_eq_true, if_false, List.nil_append, List.length_append, Bool.or_false, List.length_cons]
      omega
    · have h : lt (key x) (ckey c) = false := by simpa using h
      rw [h, show (false || !false) = true from rfl, donL_true]
      have h1 := List.length_filter_le (fun x => decide (key x ≠ ckey c)) r
      have h2 : (if key x = ckey c then [] else [x]).length ≤ 1 := by split <;> simp
      simp only [Bool.not_false, Bool.and_true, if_true, List.length_append, List.length_cons, List.length_nil]
      omega
theorem app_len : ∀ (C : List Ch) (D : List Itm), (app D C).length ≤ D.length + C.length
  | [], D => by simp [app]
  | c :: C, D => by
    rw [app_cons]
    have h1 := app_len C (don c D)
    have h2 : (don c D).length ≤ D.length + 1 := don_len c D _
    simp only [List.length_cons]
    omega
end Go.Proofs.Ytpchkmjpmlbbgaa.It
