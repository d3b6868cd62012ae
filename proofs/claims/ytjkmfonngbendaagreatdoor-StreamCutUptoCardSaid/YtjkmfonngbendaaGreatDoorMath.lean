/- Plain mathematics on bytes and numbers: a number's bytes of a width, the highest one first; no word of the program here. -/
import Derived.WalkKit
namespace Go.Proofs.YtjkmfonngbendaaGreatDoor.Pk
def be : Nat → Nat → List UInt8
  | 0, _ => []
  | k + 1, n => be k (n / 256) ++ [UInt8.ofNat n]
def num (l : List UInt8) : Nat := l.foldl (fun a b => a * 256 + b.toNat) 0
theorem be_length (k n : Nat) : (be k n).length = k := by
  induction k generalizing n with
  | zero => rfl
  | succ k ih => simp [be, ih]
theorem num_snoc (l : List UInt8) (b : UInt8) : num (l ++ [b]) = num l * 256 + b.toNat := by simp [num]
theorem num_nil : num [] = 0 := rfl
theorem num_be (k n : Nat) (h : n < 256 ^ k) : num (be k n) = n := by
  induction k generalizing n with
  | zero => simp at h; subst h; rfl
  | succ k ih =>
    have h' : n / 256 < 256 ^ k := by rw [Nat.pow_succ] at h; omega
    rw [be, num_snoc, ih _ h']
    simp
    omega
theorem num_lt (l : List UInt8) : num l < 256 ^ l.length := by
  have key : ∀ (r : List UInt8), num r.reverse < 256 ^ r.length := by
    intro r
    induction r with
    | nil => simp [num]
    | cons b r ih =>
      rw [List.reverse_cons, num_snoc, List.length_cons, Nat.pow_succ]
      have := b.toNat_lt
      omega
  have := key l.reverse
  simpa using this
theorem be_get (k n i : Nat) (h : i < k) : (be k n)[i]'(by rw [be_length]; exact h) = UInt8.ofNat (n / 256 ^ (k - 1 - i)) := by
  induction k generalizing n with
  | zero => omega
  | succ k ih =>
    by_cases hi : i = k
    · subst hi
      simp [be, be_length]
    · have hi' : i < k := by omega
      simp only [be]
      rw [List.getElem_append_left (by rw [be_length]; exact hi'), ih _ hi']
      rw [Nat.div_div_eq_div_mul, show k + 1 - 1 - i = (k - 1 - i) + 1 by omega, Nat.pow_succ, Nat.mul_comm]
theorem be_pad (a d n : Nat) (h : n < 256 ^ a) : be (d + a) n = List.replicate d 0 ++ be a n := by
  induction a generalizing n with
  | zero =>
    simp at h
    subst h
    simp only [be, Nat.add_zero, List.append_nil]
    induction d with
    | zero => rfl
    | succ d ih => rw [be, Nat.zero_div, ih, List.replicate_succ']; rfl
  | succ a ih =>
    have h' : n / 256 < 256 ^ a := by rw [Nat.pow_succ] at h; omega
    rw [show d + (a + 1) = (d + a) + 1 by omega, be, be, ih _ h', List.append_assoc]
theorem pow_256 (k : Nat) : 2 ^ (8 * k) = 256 ^ k := by rw [Nat.pow_mul]
/-- the first i of a number's bytes, zeros behind them -/
def fill (k n i : Nat) : List UInt8 := (be k n).take i ++ List.replicate (k - i) 0
theorem fill_length (k n i : Nat) (h : i ≤ k) : (fill k n i).length = k := by simp [fill, be_length]; omega
theorem fill_zero (k n : Nat) : fill k n 0 = List.replicate k 0 := by simp [fill]
theorem fill_all (k n : Nat) : fill k n k = be k n := by simp [fill, List.take_of_length_le (show (be k n).length ≤ k by rw [be_length]; exact Nat.le_refl _)]
theorem fill_set (k n i : Nat) (h : i < k) : (fill k n i).set i (UInt8.ofNat (n / 256 ^ (k - 1 - i))) = fill k n (i + 1) := by
  rw [← be_get k n i h]
  apply List.ext_getElem?
  intro j
  have hl := be_length k n
  rw [List.getElem?_set]
  have e1 : min i k = i := by omega
  have e2 : min (i + 1) k = i + 1 := by omega
  simp only [fill, List.getElem?_append, List.length_take, hl, List.getElem?_take, List.getElem?_replicate, List.length_append, List.length_replicate, e1, e2]
  by_cases hj : i = j
  · subst hj
    rw [List.getElem?_eq_getElem (show i < (be k n).length by omega)]
    simp
    omega
  · simp only [hj, if_false]
    rcases Nat.lt_or_ge j i with h2 | h2
    · have h3 : j < i + 1 := by omega
      simp only [h2, h3, if_true]
    · have h4 : ¬ j < i := by omega
      have h3 : ¬ j < i + 1 := by omega
      simp only [h4, h3, if_false]
      rcases Nat.lt_or_ge j k with h5 | h5
      · rw [if_pos (by omega), if_pos (by omega)]
      · rw [if_neg (by omega), if_neg (by omega)]
def u8s (l : List UInt8) : List Value := l.map fun b => Value.int .u8 (b.toNat : Int)
theorem u8s_length (l : List UInt8) : (u8s l).length = l.length := by simp [u8s]
theorem u8s_set (l : List UInt8) (i : Nat) (b : UInt8) : (u8s l).set i (.int .u8 (b.toNat : Int)) = u8s (l.set i b) := by simp [u8s, List.map_set]
theorem u8s_get (l : List UInt8) (i : Nat) (h : i < l.length) : (u8s l)[i]? = some (.int .u8 (l[i].toNat : Int)) := by simp [u8s, List.getElem?_eq_getElem h]
end Go.Proofs.YtjkmfonngbendaaGreatDoor.Pk
