/- Contracts of package pack's calls, each for every argument: what Number, TakeNumber, Text and TakeText answer. -/
import Derived.Test.YtlpejbbmemhloaaGreatDoorPack
import Derived.Test.YtlpejbbmemhloaaGreatDoorSumBase
namespace Go.Proofs.YtlpejbbmemhloaaGreatDoor.Pk
set_option linter.unusedVariables false
open Go.ChangeShapes Go.WideShapes Go.ChangeAt Go.RowKit
def numOk (n : Nat) (k : Int) : Bool := decide (1 ≤ k ∧ k ≤ 8 ∧ n < 256 ^ k.toNat)
def nB (n : Nat) (k : Int) : ByteArray := if numOk n k then bs (be k.toNat n) else ByteArray.empty
def nE (n : Nat) (k : Int) : Int := if numOk n k then 0 else 1
def tN (s : ByteArray) (k : Int) : Int := if 1 ≤ k ∧ k ≤ 8 ∧ k.toNat ≤ s.size then (num (s.data.toList.take k.toNat) : Nat) else 0
def tR (s : ByteArray) (k : Int) : ByteArray := if 1 ≤ k ∧ k ≤ 8 ∧ k.toNat ≤ s.size then s.extract k.toNat s.size else ByteArray.empty
def tE (s : ByteArray) (k : Int) : Int := if 1 ≤ k ∧ k ≤ 8 then (if k.toNat ≤ s.size then 0 else 3) else 1
theorem ret2 {k : IntKind} {a a' : ByteArray} {b b' : Int} (h1 : a = a') (h2 : b = b') : Ending.returned (.tuple #[.string a, .int k b]) = .returned (.tuple #[.string a', .int k b']) := by rw [h1, h2]
theorem ret3 {k k' : IntKind} {a a' : ByteArray} {b b' c c' : Int} (h0 : c = c') (h1 : a = a') (h2 : b = b') : Ending.returned (.tuple #[.int k' c, .string a, .int k b]) = .returned (.tuple #[.int k' c', .string a', .int k b']) := by rw [h0, h1, h2]
theorem below_drewN' (w : World) (q : Nat) : Below w.heap.size w (w.drewN q) := by
  exact ⟨rfl, rfl, rfl, Nat.le_refl _, fun _ _ => rfl⟩
theorem number_any (n : Nat) (k : Int) (w : World) (h0 : n < 18446744073709551616) :
    Calls Tryz.prog 113 #[.int .u64 n, .int .i64 k] w fun e w' => e = .returned (.tuple #[.string (nB n k), .int .i64 (nE n k)]) ∧ Below w.heap.size w w' := by
  by_cases hk : 1 ≤ k ∧ k ≤ 8
  · obtain ⟨m, rfl⟩ : ∃ m : Nat, k = m := ⟨k.toNat, by omega⟩
    by_cases hn : n < 256 ^ m
    · have e : numOk n m = true := by unfold numOk; simp only [decide_eq_true_eq, Int.toNat_natCast]; exact ⟨hk.1, hk.2, hn⟩
      refine (number_yes n m w h0 (by omega) (by omega) (by rw [pow_256]; exact hn)).mono fun e w' ⟨he, hw⟩ => ⟨he.trans (ret2 ?_ ?_), hw⟩
      · rw [nB, if_pos ‹_›, Int.toNat_natCast]; rfl
      · rw [nE, if_pos ‹_›]
    · have e : ¬ numOk n m = true := by unfold numOk; simp only [decide_eq_true_eq, Int.toNat_natCast]; exact fun h => hn h.2.2
      refine (number_big n m w h0 (by omega) (by omega) hn).mono fun e w' ⟨he, hw⟩ => ⟨he.trans (ret2 ?_ ?_), hw ▸ Below.refl _ _⟩
      · rw [nB, if_neg ‹_›]
      · rw [nE, if_neg ‹_›]
  · have e : ¬ numOk n k = true := by unfold numOk; simp only [decide_eq_true_eq]; exact fun h => hk ⟨h.1, h.2.1⟩
    refine (number_range n k w hk).mono fun e w' ⟨he, hw⟩ => ⟨he.trans (ret2 ?_ ?_), hw ▸ Below.refl _ _⟩
    · rw [nB, if_neg ‹_›]
    · rw [nE, if_neg ‹_›]
theorem take_any (s : ByteArray) (k : Int) (w : World) (h4 : s.size ≤ maxLen) :
    Calls Tryz.prog 171 #[.string s, .int .i64 k] w fun e w' => e = .returned (.tuple #[.int .u64 (tN s k), .string (tR s k), .int .i64 (tE s k)]) ∧ Below w.heap.size w w' := by
  by_cases hk : 1 ≤ k ∧ k ≤ 8
  · obtain ⟨m, rfl⟩ : ∃ m : Nat, k = m := ⟨k.toNat, by omega⟩
    by_cases hn : m ≤ s.size
    · have hc : 1 ≤ (m : Int) ∧ (m : Int) ≤ 8 ∧ (m : Int).toNat ≤ s.size := ⟨hk.1, hk.2, by simpa using hn⟩
      refine (take_yes s m w (by omega) (by omega) hn h4).mono fun e w' ⟨he, q, hw⟩ => ⟨he.trans (ret3 ?_ ?_ ?_), hw ▸ below_drewN' _ _⟩
      · rw [tN, if_pos hc, Int.toNat_natCast]
      · rw [tR, if_pos hc, Int.toNat_natCast]
      · rw [tE, if_pos hk, if_pos hc.2.2]
    · have hc : ¬ (1 ≤ (m : Int) ∧ (m : Int) ≤ 8 ∧ (m : Int).toNat ≤ s.size) := fun h => hn (by simpa using h.2.2)
      refine (take_more s m w (by omega) (by omega) (by omega)).mono fun e w' ⟨he, hw⟩ => ⟨he.trans (ret3 ?_ ?_ ?_), hw ▸ Below.refl _ _⟩
      · rw [tN, if_neg hc]
      · rw [tR, if_neg hc]
      · rw [tE, if_pos hk, if_neg (by simpa using hn)]
  · have hc : ¬ (1 ≤ k ∧ k ≤ 8 ∧ k.toNat ≤ s.size) := fun h => hk ⟨h.1, h.2.1⟩
    refine (take_range s k w hk).mono fun e w' ⟨he, hw⟩ => ⟨he.trans (ret3 ?_ ?_ ?_), hw ▸ Below.refl _ _⟩
    · rw [tN, if_neg hc]
    · rw [tR, if_neg hc]
    · rw [tE, if_neg hk]
end Go.Proofs.YtlpejbbmemhloaaGreatDoor.Pk
