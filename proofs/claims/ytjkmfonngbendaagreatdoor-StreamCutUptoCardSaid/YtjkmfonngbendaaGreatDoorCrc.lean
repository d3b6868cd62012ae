/- Plain mathematics on the check sum: the sum of bytes, as a function on lists, is linear, and one turned bit always shows. No word of the program here. -/
import Derived.WalkKit
namespace Go.Proofs.YtjkmfonngbendaaGreatDoor.Pk
def dbl (x : BitVec 32) : BitVec 32 := if x.msb then (x <<< 1) ^^^ 2168537515#32 else x <<< 1
def byteAt (b : UInt8) : BitVec 32 := BitVec.setWidth 32 b.toBitVec <<< 24
def dbls : Nat → BitVec 32 → BitVec 32
  | 0, x => x
  | n + 1, x => dbls n (dbl x)
def step (x : BitVec 32) (b : UInt8) : BitVec 32 := dbls 8 (x ^^^ byteAt b)
def crcFrom (x : BitVec 32) (l : List UInt8) : BitVec 32 := l.foldl step x
def crc (l : List UInt8) : BitVec 32 := crcFrom 0#32 l
theorem dbl_xor (x y : BitVec 32) : dbl (x ^^^ y) = dbl x ^^^ dbl y := by
  unfold dbl
  rw [BitVec.msb_xor, BitVec.shiftLeft_xor_distrib]
  cases x.msb <;> cases y.msb <;> simp
  · ac_rfl
  · ac_rfl
  · rw [BitVec.xor_assoc, BitVec.xor_comm (y <<< 1), ← BitVec.xor_assoc 2168537515#32, BitVec.xor_self, BitVec.zero_xor]
theorem dbl_zero_iff (x : BitVec 32) : dbl x = 0#32 → x = 0#32 := by
  intro h
  unfold dbl at h
  by_cases hm : x.msb = true
  · rw [if_pos hm] at h
    have h0 := congrArg (fun v : BitVec 32 => v.getLsbD 0) h
    simp at h0
  · rw [if_neg hm] at h
    apply BitVec.eq_of_getLsbD_eq
    intro i hi
    rw [BitVec.getLsbD_zero]
    by_cases h31 : i = 31
    · subst h31
      rw [BitVec.msb_eq_getLsbD_last] at hm
      simpa using hm
    · have h0 := congrArg (fun v : BitVec 32 => v.getLsbD (i + 1)) h
      simp only [BitVec.getLsbD_shiftLeft, BitVec.getLsbD_zero] at h0
      have e1 : decide (i + 1 < 32) = true := by simp; omega
      have e2 : decide (i + 1 < 1) = false := by simp
      rw [e1, e2] at h0
      simpa using h0
theorem dbls_xor (n : Nat) (x y : BitVec 32) : dbls n (x ^^^ y) = dbls n x ^^^ dbls n y := by
  induction n generalizing x y with
  | zero => rfl
  | succ n ih => rw [dbls, dbls, dbls, dbl_xor, ih]
theorem dbls_zero_iff (n : Nat) (x : BitVec 32) : dbls n x = 0#32 → x = 0#32 := by
  induction n generalizing x with
  | zero => exact id
  | succ n ih => exact fun h => dbl_zero_iff x (ih _ h)
theorem byteAt_xor (a b : UInt8) : byteAt (a ^^^ b) = byteAt a ^^^ byteAt b := by
  unfold byteAt
  rw [UInt8.toBitVec_xor, BitVec.setWidth_xor, BitVec.shiftLeft_xor_distrib]
theorem xor4 (a b c d : BitVec 32) : a ^^^ b ^^^ (c ^^^ d) = a ^^^ c ^^^ (b ^^^ d) := by ac_rfl
theorem step_xor (x y : BitVec 32) (a b : UInt8) : step (x ^^^ y) (a ^^^ b) = step x a ^^^ step y b := by
  unfold step
  rw [byteAt_xor, xor4, dbls_xor]
theorem crcFrom_xor : ∀ (l m : List UInt8) (x y : BitVec 32), l.length = m.length → crcFrom (x ^^^ y) (List.zipWith (· ^^^ ·) l m) = crcFrom x l ^^^ crcFrom y m
  | [], [], x, y, _ => rfl
  | a :: l, b :: m, x, y, h => by
    have := crcFrom_xor l m (step x a) (step y b) (by simpa using h)
    rw [← step_xor] at this
    exact this
theorem crc_xor (l m : List UInt8) (h : l.length = m.length) : crc (List.zipWith (· ^^^ ·) l m) = crc l ^^^ crc m := crcFrom_xor l m 0#32 0#32 h
theorem dbls_zero (n : Nat) : dbls n 0#32 = 0#32 := by
  induction n with
  | zero => rfl
  | succ n ih => exact ih
theorem step_zero (x : BitVec 32) : step x 0 = dbls 8 x := by unfold step byteAt; simp
theorem crcFrom_zeros (n : Nat) : crcFrom 0#32 (List.replicate n 0) = 0#32 := by
  induction n with
  | zero => rfl
  | succ n ih =>
    have e : crcFrom 0#32 (List.replicate (n + 1) 0) = crcFrom (step 0#32 0) (List.replicate n 0) := rfl
    rw [e, step_zero, dbls_zero, ih]
theorem crcFrom_append (x : BitVec 32) (l m : List UInt8) : crcFrom x (l ++ m) = crcFrom (crcFrom x l) m := by unfold crcFrom; rw [List.foldl_append]
theorem crc_snoc (l : List UInt8) (b : UInt8) : crc (l ++ [b]) = step (crc l) b := by unfold crc; rw [crcFrom_append]; rfl
theorem crc_leading (n : Nat) (l : List UInt8) : crc (List.replicate n 0 ++ l) = crc l := by unfold crc; rw [crcFrom_append, crcFrom_zeros]
theorem crc_zeros (n : Nat) : crc (List.replicate n 0) = 0#32 := crcFrom_zeros n
theorem crcFrom_zero_iff (n : Nat) (x : BitVec 32) : crcFrom x (List.replicate n 0) = 0#32 → x = 0#32 := by
  induction n generalizing x with
  | zero => exact id
  | succ n ih =>
    intro h
    rw [List.replicate_succ] at h
    have h1 : step x 0 = 0#32 := ih _ h
    rw [step_zero] at h1
    exact dbls_zero_iff 8 x h1
theorem byteAt_zero_iff (b : UInt8) (h : byteAt b = 0#32) : b = 0 := by
  unfold byteAt at h
  have h1 := congrArg BitVec.toNat h
  rw [BitVec.toNat_shiftLeft, BitVec.toNat_setWidth, Nat.shiftLeft_eq] at h1
  have hb := b.toNat_lt
  have h2 : b.toBitVec.toNat = b.toNat := rfl
  rw [h2] at h1
  simp at h1
  rw [← UInt8.toNat_inj]
  simp
  omega
theorem crc_single (p q : Nat) (b : UInt8) (hb : b ≠ 0) : crc (List.replicate p 0 ++ b :: List.replicate q 0) ≠ 0#32 := by
  intro h
  rw [crc_leading] at h
  have h1 : crcFrom (step 0#32 b) (List.replicate q 0) = 0#32 := h
  have h2 := crcFrom_zero_iff q _ h1
  have h3 := dbls_zero_iff 8 _ h2
  rw [BitVec.zero_xor] at h3
  exact hb (byteAt_zero_iff b h3)
theorem zip_set (l : List UInt8) (i : Nat) (h : i < l.length) (b : UInt8) : l.set i (l[i] ^^^ b) = List.zipWith (· ^^^ ·) l (List.replicate i 0 ++ b :: List.replicate (l.length - i - 1) 0) := by
  apply List.ext_getElem
  · simp; omega
  · intro j h1 h2
    rw [List.getElem_zipWith, List.getElem_set]
    by_cases hj : i = j
    · subst hj
      rw [if_pos rfl, List.getElem_append_right (by simp)]
      simp
    · rw [if_neg hj]
      by_cases hlt : j < i
      · rw [List.getElem_append_left (by simpa using hlt)]
        simp
      · rw [List.getElem_append_right (by simp; omega)]
        rw [List.getElem_cons, dif_neg (by simp; omega), List.getElem_replicate]
        simp
theorem crc_turned (l : List UInt8) (i : Nat) (h : i < l.length) (b : UInt8) (hb : b ≠ 0) : crc (l.set i (l[i] ^^^ b)) ≠ crc l := by
  rw [zip_set l i h b, crc_xor _ _ (by simp; omega)]
  intro e
  have h1 : crc l ^^^ (crc l ^^^ crc (List.replicate i 0 ++ b :: List.replicate (l.length - i - 1) 0)) = crc l ^^^ crc l := by rw [e]
  rw [← BitVec.xor_assoc, BitVec.xor_self, BitVec.zero_xor] at h1
  exact crc_single _ _ b hb h1
end Go.Proofs.YtjkmfonngbendaaGreatDoor.Pk
