/- What package strings, and slices, answer at this seat, in this claim's words. -/
import Derived.Test.YtkmbophbjgfacaaPaA
import Derived.Test.YtkmbophbjgfacaaShf
namespace Go.Proofs.Ytkmbophbjgfacaa.Ph
set_option linter.unusedVariables false
open Go.ChangeShapes Go.WideShapes Go.ChangeAt Go.RowKit
open Ar
theorem ib (c : UInt8) : ∀ l : List UInt8, decide (0 ≤ Lib.indexByte l c) = l.contains c
  | [] => rfl
  | b :: l => by
    have ih := ib c l
    have hg := Lib.indexByte_ge l c
    rw [List.contains_cons]
    unfold Lib.indexByte
    by_cases h : b = c
    · subst h
      simp
    · have h1 : (b == c) = false := by simpa using h
      have h2 : (c == b) = false := by simpa using fun e : c = b => h e.symm
      rw [h1, h2, Bool.false_or, ← ih]
      by_cases h3 : Lib.indexByte l c = -1
      · rw [h3]; rfl
      · have h4 : (Lib.indexByte l c == -1) = false := by simpa using h3
        rw [h4]
        simp only [Bool.false_eq_true, if_false]
        exact decide_eq_decide.2 (by omega)
theorem contains_any (s : ByteArray) (c : UInt8) (w : World) : Calls Try.prog 42 #[.string s, .string ⟨#[c]⟩] w fun e w' => e = .returned (.bool (has s c)) ∧ w = w' := by
  refine (Try.strings_Contains_one s c w).mono ?_
  rintro e w' ⟨rfl, rfl⟩
  exact ⟨by rw [ib]; rfl, rfl⟩
def slashed (p : ByteArray) : Bool := p.data.toList.head? == some 47
def behind (p : ByteArray) : ByteArray := if slashed p then p.extract 1 p.size else p
theorem pre_slash (l : List UInt8) : Lib.hasPrefix l [47] = (l.head? == some 47) := by
  cases l with
  | nil => rfl
  | cons a l =>
    show ((47 : UInt8) == a && true) = (some a == some 47)
    rw [Bool.and_true]
    by_cases h : a = 47
    · subst h; rfl
    · have h1 : ((47 : UInt8) == a) = false := by simpa using fun e : 47 = a => h e.symm
      rw [h1]
      exact (beq_eq_false_iff_ne.2 (fun e => h (by injection e))).symm
theorem cutPrefix_any (s : ByteArray) (w : World) : Calls Try.prog 39 #[.string s, .string ⟨#[47]⟩] w fun e w' => e = .returned (.tuple #[.string (behind s), .bool (slashed s)]) ∧ w = w' := by
  refine (Try.strings_CutPrefix s ⟨#[47]⟩ w).mono ?_
  rintro e w' ⟨rfl, rfl⟩
  refine ⟨?_, rfl⟩
  have h1 : Lib.hasPrefix s.data.toList [47] = slashed s := pre_slash _
  show Ending.returned (.tuple #[.string ⟨(Lib.trimPrefix s.data.toList [47]).toArray⟩, .bool (Lib.hasPrefix s.data.toList [47])]) = _
  rw [h1]
  congr 4
  unfold Lib.trimPrefix behind
  rw [h1]
  cases slashed s
  · rfl
  · simp only [if_true]
    congr 1
    apply ByteArray.ext
    apply Array.toList_inj.1
    rw [ByteArray.data_extract, Array.toList_extract, List.extract_eq_take_drop, List.take_of_length_le (by rw [List.length_drop, Array.length_toList]; exact Nat.le_refl _)]
    rfl
theorem join_eq : ∀ ls : List (List UInt8), Lib.join ls [47] = joi ls
  | [] => rfl
  | [x] => by rw [Lib.join_one, joi_one]
  | x :: y :: r => by
    have ih := join_eq (y :: r)
    rw [joi_cons (by simp), ← ih]
    simp [Lib.join, List.intercalate, List.intersperse]
/-- the text that names make -/
def joB (D : List ByteArray) : ByteArray := ⟨(joi (D.map (·.data.toList))).toArray⟩
theorem joinS_any (D : List ByteArray) (A : Option Addr) (n c B : Nat) (hn : n = D.length) (hc : n ≤ c) (hm : n ≤ 140737488355328) (hj : (joB D).size ≤ 140737488355328) (w : World) (hB : B ≤ w.heap.size) (hD : Ls en1 1 w B A D) :
    Calls Try.prog 43 #[.slice A n c, .string ⟨#[47]⟩] w fun e w' => e = .returned (.string (joB D)) ∧ Below w.heap.size w w' := by
  subst hn
  have e := join_eq (D.map (·.data.toList))
  cases D with
  | nil =>
    refine (Try.strings_Join_none A c ⟨#[47]⟩ w).mono ?_
    rintro e w' ⟨rfl, rfl⟩
    exact ⟨rfl, Below.refl _ _⟩
  | cons x D =>
    obtain ⟨b, o, rfl, hb, _⟩ := one_cell hD (i := 0) rfl
    have hcells : ∀ (j : Nat) y, (x :: D)[j]? = some y → w.cell? ⟨b, o + j, none⟩ = some (.string y) := by
      intro j y hy
      obtain ⟨b', o', he, _, hc'⟩ := one_cell hD hy
      injection he with he
      injection he with h1 h2
      rw [h1, h2]
      exact hc'
    have hj2 : (Lib.join ((x :: D).map (·.data.toList)) [47]).length ≤ 140737488355328 := by
      rw [e]
      have : (joB (x :: D)).size = (joi ((x :: D).map (·.data.toList))).length := by show (joi _).toArray.size = _; rw [List.size_toArray]
      omega
    refine (Try.strings_Join b o c (x :: D) ⟨#[47]⟩ w hcells (by omega) hm hc hj2).mono ?_
    rintro e' w' ⟨rfl, hb'⟩
    refine ⟨?_, hb'⟩
    show Ending.returned (.string ⟨(Lib.join ((x :: D).map (·.data.toList)) [47]).toArray⟩) = _
    rw [e]; rfl
/-- the names of the second list begin with those of the first -/
def unB (D E : List ByteArray) : Bool := decide (E.take D.length = D)
theorem equalS_any (D E : List ByteArray) (A A' : Option Addr) (n c m c' B B' : Nat) (hn : n = D.length) (hm : m = E.length) (h1 : n ≤ 9223372036854775807) (h2 : m ≤ 9223372036854775807) (w : World) (hD : Ls en1 1 w B A D) (hE : Ls en1 1 w B' A' E) :
    Calls Try.prog 44 #[.slice A n c, .slice A' m c'] w fun e w' => e = .returned (.bool (decide (D = E))) ∧ ∃ q, w' = w.drewN q := by
  subst hn hm
  have zero : ∀ u : World, ∃ q, u = u.drewN q := fun u => ⟨0, by cases u; rfl⟩
  cases D with
  | nil =>
    refine (Try.slices_Equal_string_empty A A' c E.length c' w h2).mono ?_
    rintro e w' ⟨rfl, rfl⟩
    refine ⟨?_, zero _⟩
    congr 2
    exact decide_eq_decide.2 ⟨fun h => (List.eq_nil_of_length_eq_zero h).symm, fun h => by rw [← h]; rfl⟩
  | cons x D =>
    cases E with
    | nil =>
      refine (Try.slices_Equal_string_lens A A' (x :: D).length c 0 c' w (by simp)).mono ?_
      rintro e w' ⟨rfl, rfl⟩
      exact ⟨by rw [decide_eq_false (by simp)], zero _⟩
    | cons y E =>
      have cells : ∀ {B0 : Nat} {A0 : Option Addr} {z : ByteArray} {F : List ByteArray}, Ls en1 1 w B0 A0 (z :: F) → ∃ b o, A0 = some ⟨b, o, none⟩ ∧ ∀ j, j < (z :: F).length → w.cell? ⟨b, o + j, none⟩ = some (.string ((z :: F).getD j ByteArray.empty)) := by
        intro B0 A0 z F hL
        obtain ⟨b, o, rfl, hb, _⟩ := one_cell hL (i := 0) rfl
        refine ⟨b, o, rfl, fun j hj => ?_⟩
        have hy := List.getElem?_eq_getElem hj
        obtain ⟨b', o', he, _, hc'⟩ := one_cell hL hy
        injection he with he
        injection he with k1 k2
        rw [k1, k2, List.getD_eq_getElem?_getD, hy]
        exact hc'
      obtain ⟨b, o, rfl, k1⟩ := cells hD
      obtain ⟨b2, o2, rfl, k2⟩ := cells hE
      refine (Try.slices_Equal_string b o (x :: D).length c b2 o2 (y :: E).length c' (x :: D) (y :: E) w (Nat.le_refl _) (Nat.le_refl _) h1 h2 k1 k2).mono ?_
      rintro e w' ⟨rfl, hq⟩
      refine ⟨?_, hq⟩
      rw [List.take_length, List.take_length]
end Go.Proofs.Ytkmbophbjgfacaa.Ph
