/- Words of 32 bits: the number that a slot holds, as a function of a bit vector, and what the operations on bits do to it. No word of the program here. -/
import Derived.WalkKit
import Derived.Laws.BitsAllLaws
import Derived.Laws.Bits64
namespace Go.Proofs.YtjkmfonngbendaaGreatDoor.Hk
/-- a word as the number that a slot holds -/
def vN (x : BitVec 32) : Int := (x.toNat : Int)
theorem vN_lo (x : BitVec 32) : 0 ≤ vN x := by unfold vN; omega
theorem vN_hi (x : BitVec 32) : vN x ≤ 4294967295 := by have := x.isLt; unfold vN; omega
theorem vN_inj {x y : BitVec 32} : vN x = vN y ↔ x = y := by
  unfold vN
  rw [← BitVec.toNat_inj]
  omega
theorem vN_xor (x y : BitVec 32) : bits BinOp.xor IntKind.u32 (vN x) (vN y) = vN (x ^^^ y) := by
  unfold vN
  rw [u32_xor_nat _ _ x.isLt y.isLt, BitVec.toNat_xor]
theorem vN_and (x y : BitVec 32) : bits BinOp.and IntKind.u32 (vN x) (vN y) = vN (x &&& y) := by
  unfold vN
  rw [u32_and_nat _ _ x.isLt y.isLt, BitVec.toNat_and]
theorem vN_or (x y : BitVec 32) : bits BinOp.or IntKind.u32 (vN x) (vN y) = vN (x ||| y) := by
  unfold vN
  rw [u32_or_nat _ _ x.isLt y.isLt, BitVec.toNat_or]
theorem vN_shr (x : BitVec 32) (k : Nat) : vN x / 2 ^ k = vN (x >>> k) := by
  unfold vN
  rw [BitVec.toNat_ushiftRight, Nat.shiftRight_eq_div_pow]
  simp
theorem vN_shl (x : BitVec 32) (k : Nat) : vN x * 2 ^ k % 4294967296 = vN (x <<< k) := by
  unfold vN
  rw [BitVec.toNat_shiftLeft, Nat.shiftLeft_eq]
  simp
theorem vN_add (x y : BitVec 32) : (vN x + vN y) % 4294967296 = vN (x + y) := by
  unfold vN
  rw [BitVec.toNat_add]
  simp
/-- a word turned right -/
def rr (x : BitVec 32) (k : Nat) : BitVec 32 := (x >>> k) ||| (x <<< (32 - k))
def sp0 (x : BitVec 32) : BitVec 32 := rr x 7 ^^^ rr x 18 ^^^ x >>> 3
def sp1 (x : BitVec 32) : BitVec 32 := rr x 17 ^^^ rr x 19 ^^^ x >>> 10
def mx0 (x : BitVec 32) : BitVec 32 := rr x 2 ^^^ rr x 13 ^^^ rr x 22
def mx1 (x : BitVec 32) : BitVec 32 := rr x 6 ^^^ rr x 11 ^^^ rr x 25
def cho (e f g : BitVec 32) : BitVec 32 := (e &&& f) ||| (~~~e &&& g)
def maj (a b c : BitVec 32) : BitVec 32 := (a &&& b) ||| (a &&& c) ||| (b &&& c)
theorem cho_xor (e f g : BitVec 32) : (e &&& f) ^^^ (~~~e &&& g) = cho e f g := by
  unfold cho
  apply BitVec.eq_of_getLsbD_eq
  intro i hi
  simp only [BitVec.getLsbD_xor, BitVec.getLsbD_or, BitVec.getLsbD_and, BitVec.getLsbD_not]
  cases e.getLsbD i <;> cases f.getLsbD i <;> cases g.getLsbD i <;> simp
theorem vN_inv (x : BitVec 32) : bits BinOp.xor IntKind.u32 IntKind.u32.max (vN x) = vN (~~~x) := by
  have e : IntKind.u32.max = vN (BitVec.allOnes 32) := rfl
  rw [e, vN_xor, BitVec.allOnes_xor]
theorem neg_count (k : Nat) (h1 : 1 ≤ k) (h2 : k ≤ 31) : bits BinOp.and IntKind.u64 (IntKind.u64.wrap (-(k : Int))) 31 = ((32 - k : Nat) : Int) := by
  have key : ∀ j : Fin 32, 1 ≤ j.val → bits BinOp.and IntKind.u64 (IntKind.u64.wrap (-(j.val : Int))) 31 = ((32 - j.val : Nat) : Int) := by decide +kernel
  exact key ⟨k, by omega⟩ h1
theorem vN_not (x : BitVec 32) : 4294967295 - vN x = vN (~~~x) := by
  unfold vN
  rw [BitVec.toNat_not]
  have := x.isLt
  omega
end Go.Proofs.YtjkmfonngbendaaGreatDoor.Hk
