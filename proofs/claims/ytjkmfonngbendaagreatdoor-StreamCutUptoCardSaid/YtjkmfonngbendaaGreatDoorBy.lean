/- The order of texts. -/
import Derived.Test.YtjkmfonngbendaaGreatDoorSortM
import Derived.Lib.Bytealg
namespace Go.Proofs.YtjkmfonngbendaaGreatDoor.By
open St
def bl (a b : List UInt8) : Bool := Op.bytesLess a b
theorem bl_cons (a b : UInt8) (x y : List UInt8) : bl (a :: x) (b :: y) = true ↔ a < b ∨ (a = b ∧ bl x y = true) := by
  simp [bl, Op.bytesLess]
theorem u8_tri (a b : UInt8) : a < b ∨ a = b ∨ b < a := by
  rcases Nat.lt_trichotomy a.toNat b.toNat with h | h | h
  · exact .inl (UInt8.lt_iff_toNat_lt.2 h)
  · exact .inr (.inl (UInt8.toNat.inj h))
  · exact .inr (.inr (UInt8.lt_iff_toNat_lt.2 h))
theorem u8_irrefl {a : UInt8} (h : a < a) : False := absurd (UInt8.lt_iff_toNat_lt.1 h) (Nat.lt_irrefl _)
theorem u8_trans {a b c : UInt8} (h : a < b) (h' : b < c) : a < c := UInt8.lt_iff_toNat_lt.2 (Nat.lt_trans (UInt8.lt_iff_toNat_lt.1 h) (UInt8.lt_iff_toNat_lt.1 h'))
theorem bl_asymm : ∀ a b : List UInt8, bl a b = true → bl b a = false
  | [], [], h => by cases h
  | [], _ :: _, _ => rfl
  | _ :: _, [], h => by cases h
  | a :: x, b :: y, h => by
    rw [Bool.eq_false_iff]
    intro h'
    rcases (bl_cons _ _ _ _).1 h with h1 | ⟨rfl, h1⟩ <;> rcases (bl_cons _ _ _ _).1 h' with h2 | ⟨e, h2⟩
    · exact u8_irrefl (u8_trans h1 h2)
    · subst e; exact u8_irrefl h1
    · exact u8_irrefl h2
    · rw [bl_asymm x y h1] at h2; cases h2
theorem bl_trans : ∀ a b c : List UInt8, bl a b = true → bl b c = true → bl a c = true
  | [], [], _, h, _ => by cases h
  | _ :: _, [], _, h, _ => by cases h
  | _, _ :: _, [], _, h => by cases h
  | [], _ :: _, _ :: _, _, _ => rfl
  | a :: x, b :: y, c :: z, h, h' => by
    rw [bl_cons]
    rcases (bl_cons _ _ _ _).1 h with h1 | ⟨rfl, h1⟩ <;> rcases (bl_cons _ _ _ _).1 h' with h2 | ⟨rfl, h2⟩
    · exact .inl (u8_trans h1 h2)
    · exact .inl h1
    · exact .inl h2
    · exact .inr ⟨rfl, bl_trans x y z h1 h2⟩
theorem bl_tri : ∀ a b : List UInt8, bl a b = false → bl b a = false → a = b
  | [], [], _, _ => rfl
  | [], _ :: _, h, _ => by cases h
  | _ :: _, [], _, h => by cases h
  | a :: x, b :: y, h, h' => by
    have n1 : ¬ (a < b ∨ (a = b ∧ bl x y = true)) := fun e => by rw [(bl_cons a b x y).2 e] at h; cases h
    have n2 : ¬ (b < a ∨ (b = a ∧ bl y x = true)) := fun e => by rw [(bl_cons b a y x).2 e] at h'; cases h'
    rcases u8_tri a b with e | e | e
    · exact absurd (.inl e) n1
    · subst e
      rw [bl_tri x y (by rw [Bool.eq_false_iff]; exact fun e => n1 (.inr ⟨rfl, e⟩)) (by rw [Bool.eq_false_iff]; exact fun e => n2 (.inr ⟨rfl, e⟩))]
    · exact absurd (.inl e) n2
theorem blOrd : Ord bl := ⟨bl_asymm, bl_trans, bl_tri⟩
open Lib (compareBytes)
theorem u8_eq {a b : UInt8} (h : ¬ a < b) (h' : ¬ b < a) : a = b := by
  rcases u8_tri a b with e | e | e
  · exact absurd e h
  · exact e
  · exact absurd e h'
theorem cmp_lt : ∀ a b : List UInt8, compareBytes a b < 0 ↔ bl a b = true
  | [], [] => by simp [compareBytes, bl, Op.bytesLess]
  | [], _ :: _ => by simp [compareBytes, bl, Op.bytesLess]
  | _ :: _, [] => by simp [compareBytes, bl, Op.bytesLess]
  | a :: x, b :: y => by
    rw [bl_cons, compareBytes]
    split
    · rename_i h; simp [h]
    · rename_i h
      split
      · rename_i h'
        constructor
        · intro e; omega
        · rintro (e | ⟨e, _⟩)
          · exact absurd e h
          · subst e; exact absurd h' h
      · rename_i h'
        have e : a = b := u8_eq h h'
        rw [cmp_lt x y]
        subst e
        simp [h]
theorem cmp_eq : ∀ a b : List UInt8, compareBytes a b = 0 ↔ a = b
  | [], [] => by simp [compareBytes]
  | [], _ :: _ => by simp [compareBytes]
  | _ :: _, [] => by simp [compareBytes]
  | a :: x, b :: y => by
    rw [compareBytes]
    split
    · rename_i h
      constructor
      · intro e; omega
      · intro e; cases e; exact absurd h (fun h => u8_irrefl h)
    · rename_i h
      split
      · rename_i h'
        constructor
        · intro e; omega
        · intro e; cases e; exact absurd h' h
      · rename_i h'
        have e : a = b := u8_eq h h'
        rw [cmp_eq x y, e]
        simp
end Go.Proofs.YtjkmfonngbendaaGreatDoor.By
