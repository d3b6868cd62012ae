/- Plain mathematics on what the calls of package pack answer: there and back, order, what is cut short. No walk here. -/
import Derived.Test.YtjkmfonngbendaaGreatDoorRefC
import Derived.Lib.Strings
namespace Go.Proofs.YtjkmfonngbendaaGreatDoor.Pk
set_option linter.unusedVariables false
open Go.ChangeShapes Go.WideShapes Go.ChangeAt Go.RowKit
theorem mod_pow_succ (n k : Nat) : n % 256 ^ (k + 1) = (n / 256 ^ k % 256) * 256 ^ k + n % 256 ^ k := by
  rw [Nat.pow_succ, Nat.mod_mul, Nat.mul_comm (256 ^ k), Nat.add_comm]
theorem bytesLess_be (k m n : Nat) : Op.bytesLess (be k m) (be k n) = decide (m % 256 ^ k < n % 256 ^ k) := by
  induction k with
  | zero => simp [be, Op.bytesLess, Nat.mod_one]
  | succ k ih =>
    have hp : 0 < 256 ^ k := Nat.pow_pos (by omega)
    have hm := Nat.mod_lt m hp
    have hn := Nat.mod_lt n hp
    rw [← be_cons, ← be_cons, mod_pow_succ m k, mod_pow_succ n k]
    show (decide (UInt8.ofNat (m / 256 ^ k) < UInt8.ofNat (n / 256 ^ k)) || (UInt8.ofNat (m / 256 ^ k) == UInt8.ofNat (n / 256 ^ k) && Op.bytesLess (be k m) (be k n))) = _
    rw [ih, Bool.eq_iff_iff]
    have hlt : UInt8.ofNat (m / 256 ^ k) < UInt8.ofNat (n / 256 ^ k) ↔ m / 256 ^ k % 256 < n / 256 ^ k % 256 := by
      rw [UInt8.lt_iff_toNat_lt]; simp
    have heq : UInt8.ofNat (m / 256 ^ k) = UInt8.ofNat (n / 256 ^ k) ↔ m / 256 ^ k % 256 = n / 256 ^ k % 256 := by
      rw [← UInt8.toNat_inj]; simp
    simp only [Bool.or_eq_true, Bool.and_eq_true, decide_eq_true_eq, beq_iff_eq, hlt, heq]
    generalize m / 256 ^ k % 256 = a
    generalize n / 256 ^ k % 256 = b
    generalize hA : m % 256 ^ k = c at *
    generalize hB : n % 256 ^ k = d at *
    generalize 256 ^ k = q at *
    constructor
    · rintro (h | ⟨h1, h2⟩)
      · have : (a + 1) * q ≤ b * q := Nat.mul_le_mul_right _ h
        rw [Nat.add_mul] at this
        omega
      · subst h1; omega
    · intro h
      rcases Nat.lt_trichotomy a b with h1 | h1 | h1
      · exact Or.inl h1
      · subst h1; exact Or.inr ⟨rfl, by omega⟩
      · have : (b + 1) * q ≤ a * q := Nat.mul_le_mul_right _ h1
        rw [Nat.add_mul] at this
        omega
theorem bs_list (l : List UInt8) : (bs l).toList = l := by rw [ByteArray.toList_eq]; rfl
theorem bs_data (l : List UInt8) : (bs l).data.toList = l := rfl
theorem numOk_iff {n : Nat} {k : Int} : numOk n k = true ↔ 1 ≤ k ∧ k ≤ 8 ∧ n < 256 ^ k.toNat := by unfold numOk; rw [decide_eq_true_eq]
theorem nE_ok {n : Nat} {k : Int} (h : numOk n k = true) : nE n k = 0 := by rw [nE, if_pos h]
theorem nE_no {n : Nat} {k : Int} (h : ¬ numOk n k = true) : nE n k = 1 := by rw [nE, if_neg h]
theorem nB_ok {n : Nat} {k : Int} (h : numOk n k = true) : nB n k = bs (be k.toNat n) := by rw [nB, if_pos h]
theorem nB_size {n : Nat} {k : Int} (h : numOk n k = true) : ((nB n k).size : Int) = k := by
  have := numOk_iff.1 h
  rw [nB_ok h, bs_size, be_length]; omega
theorem append_take (a : List UInt8) (r : ByteArray) (n : Nat) (h : n = a.length) : (bs a ++ r).data.toList.take n = a := by
  rw [ByteArray.data_append, Array.toList_append, bs_data, h, List.take_left]
theorem tN_back {n : Nat} {k : Int} (h : numOk n k = true) (r : ByteArray) : tN (nB n k ++ r) k = n := by
  obtain ⟨h1, h2, h3⟩ := numOk_iff.1 h
  rw [nB_ok h, tN, if_pos ⟨h1, h2, by rw [ByteArray.size_append, bs_size, be_length]; omega⟩, append_take _ _ _ (by rw [be_length]), num_be _ _ h3]
theorem tR_back {n : Nat} {k : Int} (h : numOk n k = true) (r : ByteArray) : tR (nB n k ++ r) k = r := by
  obtain ⟨h1, h2, h3⟩ := numOk_iff.1 h
  rw [nB_ok h, tR, if_pos ⟨h1, h2, by rw [ByteArray.size_append, bs_size, be_length]; omega⟩]
  exact ByteArray.extract_append_eq_right (by rw [bs_size, be_length]) (by rw [ByteArray.size_append])
theorem tE_back {n : Nat} {k : Int} (h : numOk n k = true) (r : ByteArray) : tE (nB n k ++ r) k = 0 := by
  obtain ⟨h1, h2, h3⟩ := numOk_iff.1 h
  rw [nB_ok h, tE, if_pos ⟨h1, h2⟩, if_pos (by rw [ByteArray.size_append, bs_size, be_length]; omega)]
theorem tE_short {n : Nat} {k : Int} (h : numOk n k = true) (c : Nat) (hc : (c : Int) < k) : tE ((nB n k).extract 0 c) k = 3 := by
  obtain ⟨h1, h2, h3⟩ := numOk_iff.1 h
  rw [tE, if_pos ⟨h1, h2⟩, if_neg (by rw [ByteArray.size_extract]; omega)]
theorem xB_size {t : ByteArray} (h : t.size ≤ 65535) : (xB t).size = t.size + 2 := by
  rw [xB, if_pos h, ByteArray.size_append, bs_size, be_length]; omega
theorem xB_le (t : ByteArray) : (xB t).size ≤ 65537 := by
  by_cases h : t.size ≤ 65535
  · rw [xB_size h]; omega
  · rw [xB, if_neg h]; decide
theorem xB_app {t : ByteArray} (h : t.size ≤ 65535) (r : ByteArray) : xB t ++ r = bs (be 2 t.size) ++ (t ++ r) := by
  rw [xB, if_pos h, ByteArray.append_assoc]
theorem uN_back {t : ByteArray} (h : t.size ≤ 65535) (r : ByteArray) : uN (xB t ++ r) = t.size := by
  rw [uN, xB_app h, append_take _ _ _ (by rw [be_length]), num_be _ _ (by omega)]
theorem uOk_back {t : ByteArray} (h : t.size ≤ 65535) (r : ByteArray) : uOk (xB t ++ r) = true := by
  unfold uOk
  rw [decide_eq_true_eq, uN_back h, ByteArray.size_append, xB_size h]
  omega
theorem uCut {t : ByteArray} (h : t.size ≤ 65535) (r : ByteArray) : (xB t ++ r).extract 2 (xB t ++ r).size = t ++ r := by
  rw [xB_app h]
  exact ByteArray.extract_append_eq_right (by rw [bs_size, be_length]) (by rw [ByteArray.size_append])
theorem uT_back {t : ByteArray} (h : t.size ≤ 65535) (r : ByteArray) : uT (xB t ++ r) = t := by
  rw [uT, if_pos (uOk_back h r), uN_back h, uCut h]
  exact ByteArray.extract_append_eq_left rfl
theorem uR_back {t : ByteArray} (h : t.size ≤ 65535) (r : ByteArray) : uR (xB t ++ r) = r := by
  rw [uR, if_pos (uOk_back h r), uN_back h, uCut h]
  exact ByteArray.extract_append_eq_right rfl (by rw [ByteArray.size_append, xB_size h]; omega)
theorem uE_back {t : ByteArray} (h : t.size ≤ 65535) (r : ByteArray) : uE (xB t ++ r) = 0 := by rw [uE, if_pos (uOk_back h r)]
theorem xE_ok {t : ByteArray} (h : t.size ≤ 65535) : xE t = 0 := by rw [xE, if_pos h]
theorem xE_no {t : ByteArray} (h : ¬ t.size ≤ 65535) : xE t = 2 := by rw [xE, if_neg h]
theorem uE_short {t : ByteArray} (h : t.size ≤ 65535) (c : Nat) (hc : c < t.size + 2) : uE ((xB t).extract 0 c) = 3 := by
  rw [uE, if_neg]
  unfold uOk
  rw [decide_eq_true_eq, ByteArray.size_extract, xB_size h]
  rintro ⟨h1, h2⟩
  have e : uN ((xB t).extract 0 c) = t.size := by
    rw [uN, Lib.extract_data, List.drop_zero, List.take_take, show min 2 (c - 0) = 2 by omega, xB, if_pos h, append_take _ _ _ (by rw [be_length]), num_be _ _ (by omega)]
  omega
theorem wide_pad {n : Nat} {a b : Int} (h : numOk n a = true) (hab : a ≤ b) (hb : b ≤ 8) : numOk n b = true := by
  obtain ⟨h1, h2, h3⟩ := numOk_iff.1 h
  exact numOk_iff.2 ⟨by omega, hb, Nat.lt_of_lt_of_le h3 (Nat.pow_le_pow_right (by omega) (by omega))⟩
theorem wide_eq {n : Nat} {a b : Int} (h : numOk n a = true) (hab : a ≤ b) (hb : b ≤ 8) : nB n b = bs (List.replicate (b - a).toNat 0) ++ nB n a := by
  have h' := wide_pad h hab hb
  obtain ⟨h1, h2, h3⟩ := numOk_iff.1 h
  rw [nB_ok h, nB_ok h', bs_append, ← be_pad _ _ _ h3]
  congr 2
  omega
end Go.Proofs.YtjkmfonngbendaaGreatDoor.Pk
