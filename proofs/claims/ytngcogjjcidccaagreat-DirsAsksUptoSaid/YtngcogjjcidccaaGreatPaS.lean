/- What package strings, and slices, answer at this seat, in this claim's words. -/
import Derived.Test.YtngcogjjcidccaaGreatPaA
import Derived.Test.YtngcogjjcidccaaGreatShf
namespace Go.Proofs.YtngcogjjcidccaaGreat.Ph
set_option linter.unusedVariables false
open Go.ChangeShapes Go.WideShapes Go.ChangeAt Go.RowKit
open Ar
theorem ib (c : UInt8) : ∀ l : List UInt8, decide (0 ≤ Lib.indexByte l c) = l.contains c
  | [] => rfl
  | b :: l => by
    have ih := ib c l
    have hg := Lib.indexByte_ge l c
    rw [List.contains_cons]
    unfold Lib.indexByte
    by_cases h : b = c
    · subst h
      simp
    · have h1 : (b == c) = false := by simpa using h
      have h2 : (c == b) = false := by simpa using fun e : c = b => h e.symm
      rw [h1, h2, Bool.false_or, ← ih]
      by_cases h3 : Lib.indexByte l c = -1
      · rw [h3]; rfl
      · have h4 : (Lib.indexByte l c == -1) = false := by simpa using h3
        rw [h4]
        simp only [Bool.false_eq_true, if_false]
        exact decide_eq_decide.2 (by omega)
theorem contains_any (s : ByteArray) (c : UInt8) (w : World) : Calls Tryz.prog 79 #[.string s, .string ⟨#[c]⟩] w fun e w' => e = .returned (.bool (has s c)) ∧ w = w' := by
  refine (Tryz.strings_Contains_one s c w).mono ?_
  rintro e w' ⟨rfl, rfl⟩
  exact ⟨by rw [ib]; rfl, rfl⟩
def slashed (p : ByteArray) : Bool := p.data.toList.head? == some 47
def behind (p : ByteArray) : ByteArray := if slashed p then p.extract 1 p.size else p
theorem pre_slash (l : List UInt8) : Lib.hasPrefix l [47] = (l.head? == some 47) := by
  cases l with
  | nil => rfl
  | cons a l =>
    show ((47 : UInt8) == a && true) = (some a == some 47)
    rw [Bool.and_true]
    by_cases h : a = 47
    · subst h; rfl
    · have h1 : ((47 : UInt8) == a) = false := by simpa using fun e : 47 = a => h e.symm
      rw [h1]
      exact (beq_eq_false_iff_ne.2 (fun e => h (by injection e))).symm
theorem cutPrefix_any (s : ByteArray) (w : World) : Calls Tryz.prog 59 #[.string s, .string ⟨#[47]⟩] w fun e w' => e = .returned (.tuple #[.string (behind s), .bool (slashed s)]) ∧ w = w' := by
  refine (Tryz.strings_CutPrefix s ⟨#[47]⟩ w).mono ?_
  rintro e w' ⟨rfl, rfl⟩
  refine ⟨?_, rfl⟩
  have h1 : Lib.hasPrefix s.data.toList [47] = slashed s := pre_slash _
  show Ending.returned (.tuple #[.string ⟨(Lib.trimPrefix s.data.toList [47]).toArray⟩, .bool (Lib.hasPrefix s.data.toList [47])]) = _
  rw [h1]
  congr 4
  unfold Lib.trimPrefix behind
  rw [h1]
  cases slashed s
  · rfl
  · simp only [if_true]
    congr 1
    apply ByteArray.ext
    apply Array.toList_inj.1
    rw [ByteArray.data_extract, Array.toList_extract, List.extract_eq_take_drop, List.take_of_length_le (by rw [List.length_drop, Array.length_toList]; exact Nat.le_refl _)]
    rfl
/-- the text that names make -/
def joB (D : List ByteArray) : ByteArray := ⟨(joi (D.map (·.data.toList))).toArray⟩
/-- the names of the second list begin with those of the first -/
def unB (D E : List ByteArray) : Bool := decide (E.take D.length = D)
end Go.Proofs.YtngcogjjcidccaaGreat.Ph
