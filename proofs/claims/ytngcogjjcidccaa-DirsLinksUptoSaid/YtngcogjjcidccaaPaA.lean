/- Contracts of names: the code's and the document's. -/
import Derived.Test.YtngcogjjcidccaaLs
import Derived.Test.YtngcogjjcidccaaPhM
import Derived.Test.YtngcogjjcidccaaRows
import Derived.WalkKit
import Derived.ProofKit
import Derived.Handy
import Derived.BigQuiet
import Derived.Deep.QuietTactic
import Derived.RegionTactic
import Derived.Outline
import Derived.WalkLawsBesides
import Derived.WalkSpells
import Derived.Lib.Hide
import Derived.Laws.IdiomStrings
namespace Go.Proofs.Ytngcogjjcidccaa.Ph
set_option linter.unusedVariables false
open Go.ChangeShapes Go.WideShapes Go.ChangeAt Go.RowKit
open BigFrame
/-- a list of names lies so -/
def en1 (s : ByteArray) : List Value := [.string s]
theorem en1_len (s : ByteArray) : (en1 s).length = 1 := rfl
theorem en1_one (s : ByteArray) : ∀ u ∈ en1 s, u.oneCell' = true := by
  intro u hu
  simp [en1] at hu
  subst hu; rfl
theorem one_cell {w : World} {B : Nat} {A : Option Addr} {D : List ByteArray} (h : Ar.Ls en1 1 w B A D) {i : Nat} {x : ByteArray} (hx : D[i]? = some x) : ∃ b o, A = some ⟨b, o, none⟩ ∧ b < B ∧ w.cell? ⟨b, o + i, none⟩ = some (.string x) := by
  obtain ⟨b, o, h1, h2, h3⟩ := h i x hx
  refine ⟨b, o, h1, h2, ?_⟩
  have := h3 0 (.string x) rfl
  rw [Nat.mul_one, Nat.add_zero] at this
  exact this
def has (s : ByteArray) (c : UInt8) : Bool := s.data.toList.contains c
theorem tl (s : ByteArray) : s.toList = s.data.toList := by rw [ByteArray.toList_eq]
theorem nb_eq (s : ByteArray) : nb s = (!s.toList.isEmpty && decide (s.toList.length ≤ 24) && !(s.toList == [46]) && !(s.toList == [46, 46]) && !has s 47 && !has s 0) := by
  unfold nb nm has; rw [tl]
theorem tl_len (s : ByteArray) : s.toList.length = s.size := by rw [tl, Array.length_toList]; rfl
theorem name_any (s : ByteArray) (w : World)
    (HC : ∀ c w, Calls Try.prog 53 #[.string s, .string ⟨#[c]⟩] w fun e w' => e = .returned (.bool (has s c)) ∧ w = w') :
    Calls Try.prog 38 #[.string s] w fun e w' => e = .returned (.bool (nb s)) ∧ w = w' := by
  have hn := nb_eq s
  rw [tl_len] at hn
  have H1 := Lib.hid (HC 47)
  have H2 := Lib.hid (HC 0)
  clear HC
  by_cases h1 : s.toList = []
  · have e1 : s.toList.isEmpty = true := by rw [h1]; rfl
    have HN := Lib.hid (show nb s = false by rw [hn, e1]; rfl)
    clear hn
    go_enter Try.func38, Try.ntmps38
    go_wp2
    go_ret
    exact ⟨by rw [HN.out]; rfl, rfl⟩
  · have e1 : s.toList.isEmpty = false := by cases h : s.toList with | nil => exact absurd h h1 | cons a l => rfl
    by_cases h2 : s.size ≤ 24
    · have d2 : decide (24 < (s.size : Int)) = false := by simp; omega
      by_cases h3 : s.toList = [46]
      · have e3 : (s.toList == [46]) = true := by rw [h3]; rfl
        have HN := Lib.hid (show nb s = false by rw [hn, e3]; simp)
        clear hn
        go_enter Try.func38, Try.ntmps38
        go_wp2
        go_ret
        exact ⟨by rw [HN.out]; rfl, rfl⟩
      · have e3 : (s.toList == [46]) = false := by simpa using h3
        by_cases h4 : s.toList = [46, 46]
        · have e4 : (s.toList == [46, 46]) = true := by rw [h4]; rfl
          have HN := Lib.hid (show nb s = false by rw [hn, e4]; simp)
          clear hn h4
          go_enter Try.func38, Try.ntmps38
          go_wp2
          go_ret
          exact ⟨by rw [HN.out]; rfl, rfl⟩
        · have e4 : (s.toList == [46, 46]) = false := by simpa using h4
          cases h5 : has s 47
          · cases h6 : has s 0
            all_goals
              have HN := Lib.hid (show nb s = _ by rw [hn, e1, e3, e4, h5, h6, decide_eq_true h2])
              rw [h5] at H1
              rw [h6] at H2
              clear hn h5 h6
              go_enter Try.func38, Try.ntmps38
              go_wp2_with (go_at_call 53; first | ((with_reducible refine (H1.out _).mono ?_); rintro e w' ⟨rfl, rfl⟩) | ((with_reducible refine (H2.out _).mono ?_); rintro e w' ⟨rfl, rfl⟩))
              go_ret
              exact ⟨by rw [HN.out]; rfl, rfl⟩
          · have HN := Lib.hid (show nb s = false by rw [hn, h5]; simp)
            rw [h5] at H1
            clear hn h5
            go_enter Try.func38, Try.ntmps38
            go_wp2_with (go_at_call 53; refine (H1.out _).mono ?_; rintro e w' ⟨rfl, rfl⟩)
            go_ret
            exact ⟨by rw [HN.out]; rfl, rfl⟩
    · have d2 : decide (24 < (s.size : Int)) = true := by simp; omega
      have HN := Lib.hid (show nb s = false by rw [hn, decide_eq_false h2]; simp)
      clear hn
      go_enter Try.func38, Try.ntmps38
      go_wp2
      go_ret
      exact ⟨by rw [HN.out]; rfl, rfl⟩
theorem has_iff {s : ByteArray} {c : UInt8} : has s c = true ↔ c ∈ s.data.toList := by unfold has; simp
theorem has_take {s : ByteArray} {c : UInt8} {i : Nat} (h : i < s.size) : (s.data.toList.take (i + 1)).contains c = ((s.data.toList.take i).contains c || (s[i] == c)) := by
  rw [List.take_succ_eq_append_getElem (by simpa using h), List.contains_eq_any_beq, List.contains_eq_any_beq, List.any_append]
  simp only [List.any_cons, List.any_nil, Bool.or_false]
  congr 1
  rw [Bool.eq_iff_iff, beq_iff_eq, beq_iff_eq]
  exact ⟨fun h => h.symm, fun h => h.symm⟩
theorem byte_ne {b c : UInt8} (h : (b == c) = false) : ((b.toNat : Int) == (c.toNat : Int)) = false := by
  rw [beq_eq_false_iff_ne] at h ⊢
  intro e
  apply h
  apply UInt8.toNat_inj.1
  omega
theorem byte_eq {b c : UInt8} (h : (b == c) = true) : ((b.toNat : Int) == (c.toNat : Int)) = true := by
  rw [beq_iff_eq] at h ⊢
  rw [h]
end Go.Proofs.Ytngcogjjcidccaa.Ph
