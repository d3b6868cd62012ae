/- Words of 32 bits: the number that a slot holds, as a function of a bit vector, and what the operations on bits do to it. No word of the program here. -/
import Derived.Test.YtjkapmghifglcaaDoorRows
import Derived.WalkKit
import Derived.Laws.BitsAllLaws
import Derived.Laws.Bits64
import Derived.ProofKit
import Derived.Handy
import Derived.BigQuiet
import Derived.Deep.QuietTactic
import Derived.RegionTactic
import Derived.Outline
import Derived.WalkLawsBesides
import Derived.WalkSpells
import Derived.Lib.Hide
import Derived.Laws.IdiomStrings
import Derived.Deep.RegionHeld
import Derived.StillTailTactics
import Derived.Laws.Rows
import Derived.Laws.Tables
import Derived.Deep.MidRow
import Derived.Deep.RegionWith
import Derived.Lib.Strings
namespace Go.Proofs.YtjkapmghifglcaaDoor.Hk
/-- a word as the number that a slot holds -/
def vN (x : BitVec 32) : Int := (x.toNat : Int)
theorem vN_lo (x : BitVec 32) : 0 ≤ vN x := by unfold vN; omega
theorem vN_hi (x : BitVec 32) : vN x ≤ 4294967295 := by have := x.isLt; unfold vN; omega
theorem vN_inj {x y : BitVec 32} : vN x = vN y ↔ x = y := by
  unfold vN
  rw [← BitVec.toNat_inj]
  omega
theorem vN_xor (x y : BitVec 32) : bits BinOp.xor IntKind.u32 (vN x) (vN y) = vN (x ^^^ y) := by
  unfold vN
  rw [u32_xor_nat _ _ x.isLt y.isLt, BitVec.toNat_xor]
theorem vN_and (x y : BitVec 32) : bits BinOp.and IntKind.u32 (vN x) (vN y) = vN (x &&& y) := by
  unfold vN
  rw [u32_and_nat _ _ x.isLt y.isLt, BitVec.toNat_and]
theorem vN_or (x y : BitVec 32) : bits BinOp.or IntKind.u32 (vN x) (vN y) = vN (x ||| y) := by
  unfold vN
  rw [u32_or_nat _ _ x.isLt y.isLt, BitVec.toNat_or]
theorem vN_shr (x : BitVec 32) (k : Nat) : vN x / 2 ^ k = vN (x >>> k) := by
  unfold vN
  rw [BitVec.toNat_ushiftRight, Nat.shiftRight_eq_div_pow]
  simp
theorem vN_shl (x : BitVec 32) (k : Nat) : vN x * 2 ^ k % 4294967296 = vN (x <<< k) := by
  unfold vN
  rw [BitVec.toNat_shiftLeft, Nat.shiftLeft_eq]
  simp
theorem vN_add (x y : BitVec 32) : (vN x + vN y) % 4294967296 = vN (x + y) := by
  unfold vN
  rw [BitVec.toNat_add]
  simp
/-- a word turned right -/
def rr (x : BitVec 32) (k : Nat) : BitVec 32 := (x >>> k) ||| (x <<< (32 - k))
def sp0 (x : BitVec 32) : BitVec 32 := rr x 7 ^^^ rr x 18 ^^^ x >>> 3
def sp1 (x : BitVec 32) : BitVec 32 := rr x 17 ^^^ rr x 19 ^^^ x >>> 10
def mx0 (x : BitVec 32) : BitVec 32 := rr x 2 ^^^ rr x 13 ^^^ rr x 22
def mx1 (x : BitVec 32) : BitVec 32 := rr x 6 ^^^ rr x 11 ^^^ rr x 25
def cho (e f g : BitVec 32) : BitVec 32 := (e &&& f) ||| (~~~e &&& g)
def maj (a b c : BitVec 32) : BitVec 32 := (a &&& b) ||| (a &&& c) ||| (b &&& c)
theorem cho_xor (e f g : BitVec 32) : (e &&& f) ^^^ (~~~e &&& g) = cho e f g := by
  unfold cho
  apply BitVec.eq_of_getLsbD_eq
  intro i hi
  simp only [BitVec.getLsbD_xor, BitVec.getLsbD_or, BitVec.getLsbD_and, BitVec.getLsbD_not]
  cases e.getLsbD i <;> cases f.getLsbD i <;> cases g.getLsbD i <;> simp
theorem vN_inv (x : BitVec 32) : bits BinOp.xor IntKind.u32 IntKind.u32.max (vN x) = vN (~~~x) := by
  have e : IntKind.u32.max = vN (BitVec.allOnes 32) := rfl
  rw [e, vN_xor, BitVec.allOnes_xor]
theorem neg_count (k : Nat) (h1 : 1 ≤ k) (h2 : k ≤ 31) : bits BinOp.and IntKind.u64 (IntKind.u64.wrap (-(k : Int))) 31 = ((32 - k : Nat) : Int) := by
  have key : ∀ j : Fin 32, 1 ≤ j.val → bits BinOp.and IntKind.u64 (IntKind.u64.wrap (-(j.val : Int))) 31 = ((32 - j.val : Nat) : Int) := by decide +kernel
  exact key ⟨k, by omega⟩ h1
theorem vN_not (x : BitVec 32) : 4294967295 - vN x = vN (~~~x) := by
  unfold vN
  rw [BitVec.toNat_not]
  have := x.isLt
  omega
end Go.Proofs.YtjkapmghifglcaaDoor.Hk
/- Contracts of the small functions of package hash, and of the document's own ones: words turned, spread, mixed, chosen. -/
namespace Go.Proofs.YtjkapmghifglcaaDoor.Hk
set_option linter.unusedVariables false
open Go.ChangeShapes Go.WideShapes Go.ChangeAt Go.RowKit
theorem ret_u32 {a b : Int} (h : a = b) : Ending.returned (.int .u32 a) = .returned (.int .u32 b) := by rw [h]
theorem rotate_any (x : BitVec 32) (k : Nat) (hk : 1 ≤ k) (hk2 : k ≤ 31) (w : World) :
    Calls Tryd.prog 112 #[.int .u32 (vN x), .int .i64 (-(k : Int))] w fun e w' => e = .returned (.int .u32 (vN (rr x k))) ∧ w = w' := by
  have h0 := vN_lo x
  have h1 := vN_hi x
  have hn := neg_count k hk hk2
  obtain ⟨s, hs⟩ : ∃ s, s = 32 - k := ⟨_, rfl⟩
  rw [← hs] at hn
  have s1 : 1 ≤ s := by omega
  have s2 : s ≤ 31 := by omega
  have HS := Lib.hid hs
  clear hs
  go_enter Tryd.func112, Tryd.ntmps112
  go_wp2
  go_ret
  refine ⟨ret_u32 ?_, rfl⟩
  rw [vN_shl, vN_shr, vN_or, BitVec.or_comm, rr, show 32 - s = k by have := HS.out; omega, HS.out]
theorem turned_any (x : BitVec 32) (k : Nat) (hk : 1 ≤ k) (hk2 : k ≤ 31) (w : World) :
    Calls Tryd.prog 105 #[.int .u32 (vN x), .int .i64 k] w fun e w' => e = .returned (.int .u32 (vN (rr x k))) ∧ w = w' := by
  go_enter Tryd.func105, Tryd.ntmps105
  go_wp2_with (first | (go_at_call 112; refine (rotate_any x k hk hk2 _).mono ?_; rintro e w' ⟨rfl, rfl⟩))
  go_ret
  exact ⟨rfl, rfl⟩
theorem choice_any (x y z : BitVec 32) (w : World) :
    Calls Tryd.prog 93 #[.int .u32 (vN x), .int .u32 (vN y), .int .u32 (vN z)] w fun e w' => e = .returned (.int .u32 (vN (cho x y z))) ∧ w = w' := by
  have h0 := vN_lo x
  have h1 := vN_hi x
  go_enter Tryd.func93, Tryd.ntmps93
  go_wp2
  go_ret
  refine ⟨ret_u32 ?_, rfl⟩
  rw [vN_inv, vN_and, vN_and, vN_or, cho]
theorem maj_any (x y z : BitVec 32) (w : World) :
    Calls Tryd.prog 95 #[.int .u32 (vN x), .int .u32 (vN y), .int .u32 (vN z)] w fun e w' => e = .returned (.int .u32 (vN (maj x y z))) ∧ w = w' := by
  go_enter Tryd.func95, Tryd.ntmps95
  go_wp2
  go_ret
  refine ⟨ret_u32 ?_, rfl⟩
  rw [vN_and, vN_and, vN_and, vN_or, vN_or, maj]
theorem mix0_any (x : BitVec 32) (w : World) :
    Calls Tryd.prog 94 #[.int .u32 (vN x)] w fun e w' => e = .returned (.int .u32 (vN (mx0 x))) ∧ w = w' := by
  have h0 := vN_lo x
  have h1 := vN_hi x
  have X : ∀ a b : BitVec 32, bits BinOp.xor IntKind.u32 (vN a) (vN b) = vN (a ^^^ b) := vN_xor
  have C := Lib.hid (turned_any x)
  go_enter Tryd.func94, Tryd.ntmps94
  go_wp2_with fail
  (go_at_call 105; refine (C.out 2 (by omega) (by omega) _).mono ?_; rintro e w' ⟨rfl, rfl⟩)
  go_wp2_with fail
  (go_at_call 105; refine (C.out 13 (by omega) (by omega) _).mono ?_; rintro e w' ⟨rfl, rfl⟩)
  go_wp2_with fail
  (go_at_call 105; refine (C.out 22 (by omega) (by omega) _).mono ?_; rintro e w' ⟨rfl, rfl⟩)
  go_wp2
  go_ret
  exact ⟨by rfl, rfl⟩
theorem mix1_any (x : BitVec 32) (w : World) :
    Calls Tryd.prog 92 #[.int .u32 (vN x)] w fun e w' => e = .returned (.int .u32 (vN (mx1 x))) ∧ w = w' := by
  have h0 := vN_lo x
  have h1 := vN_hi x
  have X : ∀ a b : BitVec 32, bits BinOp.xor IntKind.u32 (vN a) (vN b) = vN (a ^^^ b) := vN_xor
  have C := Lib.hid (turned_any x)
  go_enter Tryd.func92, Tryd.ntmps92
  go_wp2_with fail
  (go_at_call 105; refine (C.out 6 (by omega) (by omega) _).mono ?_; rintro e w' ⟨rfl, rfl⟩)
  go_wp2_with fail
  (go_at_call 105; refine (C.out 11 (by omega) (by omega) _).mono ?_; rintro e w' ⟨rfl, rfl⟩)
  go_wp2_with fail
  (go_at_call 105; refine (C.out 25 (by omega) (by omega) _).mono ?_; rintro e w' ⟨rfl, rfl⟩)
  go_wp2
  go_ret
  exact ⟨by rfl, rfl⟩
theorem spread0_any (x : BitVec 32) (w : World) :
    Calls Tryd.prog 97 #[.int .u32 (vN x)] w fun e w' => e = .returned (.int .u32 (vN (sp0 x))) ∧ w = w' := by
  have h0 := vN_lo x
  have h1 := vN_hi x
  have X : ∀ a b : BitVec 32, bits BinOp.xor IntKind.u32 (vN a) (vN b) = vN (a ^^^ b) := vN_xor
  have S : vN x / (8 : Int) = vN (x >>> 3) := by have := vN_shr x 3; simpa using this
  have C := Lib.hid (turned_any x)
  go_enter Tryd.func97, Tryd.ntmps97
  go_wp2_with fail
  (go_at_call 105; refine (C.out 7 (by omega) (by omega) _).mono ?_; rintro e w' ⟨rfl, rfl⟩)
  go_wp2_with fail
  (go_at_call 105; refine (C.out 18 (by omega) (by omega) _).mono ?_; rintro e w' ⟨rfl, rfl⟩)
  go_wp2
  go_ret
  exact ⟨by rfl, rfl⟩
theorem spread1_any (x : BitVec 32) (w : World) :
    Calls Tryd.prog 96 #[.int .u32 (vN x)] w fun e w' => e = .returned (.int .u32 (vN (sp1 x))) ∧ w = w' := by
  have h0 := vN_lo x
  have h1 := vN_hi x
  have X : ∀ a b : BitVec 32, bits BinOp.xor IntKind.u32 (vN a) (vN b) = vN (a ^^^ b) := vN_xor
  have S : vN x / (1024 : Int) = vN (x >>> 10) := by have := vN_shr x 10; simpa using this
  have C := Lib.hid (turned_any x)
  go_enter Tryd.func96, Tryd.ntmps96
  go_wp2_with fail
  (go_at_call 105; refine (C.out 17 (by omega) (by omega) _).mono ?_; rintro e w' ⟨rfl, rfl⟩)
  go_wp2_with fail
  (go_at_call 105; refine (C.out 19 (by omega) (by omega) _).mono ?_; rintro e w' ⟨rfl, rfl⟩)
  go_wp2
  go_ret
  exact ⟨by rfl, rfl⟩
end Go.Proofs.YtjkapmghifglcaaDoor.Hk
/- Plain mathematics of SHA-256 as it is walked: the words of a piece, the rounds, and lists of words in arrays. -/
namespace Go.Proofs.YtjkapmghifglcaaDoor.Hk
def byteW (b : UInt8) : BitVec 32 := BitVec.setWidth 32 b.toBitVec
theorem byteW_n (b : UInt8) : (b.toNat : Int) = vN (byteW b) := by
  have hb := b.toNat_lt
  unfold vN byteW
  rw [BitVec.toNat_setWidth]
  have h2 : b.toBitVec.toNat = b.toNat := rfl
  rw [h2, Nat.mod_eq_of_lt (by omega)]
theorem byteW_lt (b : UInt8) : vN (byteW b) < 256 := by
  rw [← byteW_n]; have := b.toNat_lt; omega
theorem byteW_24 (b : UInt8) : (b.toNat : Int) * (16777216 : Int) = vN (byteW b <<< 24) := by
  have h := byteW_lt b
  have h0 := vN_lo (byteW b)
  rw [byteW_n, ← vN_shl]
  omega
theorem byteW_16 (b : UInt8) : (b.toNat : Int) * (65536 : Int) = vN (byteW b <<< 16) := by
  have h := byteW_lt b
  have h0 := vN_lo (byteW b)
  rw [byteW_n, ← vN_shl]
  omega
theorem byteW_8 (b : UInt8) : (b.toNat : Int) * (256 : Int) = vN (byteW b <<< 8) := by
  have h := byteW_lt b
  have h0 := vN_lo (byteW b)
  rw [byteW_n, ← vN_shl]
  omega
theorem wrap_b (b : UInt8) : IntKind.u32.wrap (b.toNat : Int) = (b.toNat : Int) := by rw [byteW_n]; have := byteW_lt b; have := vN_lo (byteW b); rw [IntKind.wrap_u32']; omega
theorem wrap_b8 (b : UInt8) : IntKind.u32.wrap ((b.toNat : Int) * (256 : Int)) = (b.toNat : Int) * (256 : Int) := by rw [byteW_n]; have := byteW_lt b; have := vN_lo (byteW b); rw [IntKind.wrap_u32']; omega
theorem wrap_b16 (b : UInt8) : IntKind.u32.wrap ((b.toNat : Int) * (65536 : Int)) = (b.toNat : Int) * (65536 : Int) := by rw [byteW_n]; have := byteW_lt b; have := vN_lo (byteW b); rw [IntKind.wrap_u32']; omega
theorem wrap_b24 (b : UInt8) : IntKind.u32.wrap ((b.toNat : Int) * (16777216 : Int)) = (b.toNat : Int) * (16777216 : Int) := by rw [byteW_n]; have := byteW_lt b; have := vN_lo (byteW b); rw [IntKind.wrap_u32']; omega
def word4 (a b c d : UInt8) : BitVec 32 := byteW a <<< 24 ||| byteW b <<< 16 ||| byteW c <<< 8 ||| byteW d
theorem word4_n (a b c d : UInt8) : bits BinOp.or IntKind.u32 (bits BinOp.or IntKind.u32 (bits BinOp.or IntKind.u32 ((a.toNat : Int) * (16777216 : Int)) ((b.toNat : Int) * (65536 : Int))) ((c.toNat : Int) * (256 : Int))) (d.toNat : Int) = vN (word4 a b c d) := by
  rw [byteW_24, byteW_16, byteW_8, byteW_n d, vN_or, vN_or, vN_or, word4]
def wd (s : List UInt8) (t : Nat) : BitVec 32 := word4 (s.getD (4 * t) 0) (s.getD (4 * t + 1) 0) (s.getD (4 * t + 2) 0) (s.getD (4 * t + 3) 0)
def nxt (f : Nat → BitVec 32) (l : List (BitVec 32)) (t : Nat) : BitVec 32 := if t < 16 then f t else sp1 (l.getD (t - 2) 0) + l.getD (t - 7) 0 + sp0 (l.getD (t - 15) 0) + l.getD (t - 16) 0
def wl (f : Nat → BitVec 32) : Nat → List (BitVec 32)
  | 0 => []
  | t + 1 => wl f t ++ [nxt f (wl f t) t]
theorem wl_length (f : Nat → BitVec 32) (t : Nat) : (wl f t).length = t := by
  induction t with
  | zero => rfl
  | succ t ih => rw [wl, List.length_append, ih]; rfl
/-- the words so far, zeros behind them -/
def wf (f : Nat → BitVec 32) (n t : Nat) : List (BitVec 32) := wl f t ++ List.replicate (n - t) 0
theorem wf_length (f : Nat → BitVec 32) (n t : Nat) (h : t ≤ n) : (wf f n t).length = n := by rw [wf, List.length_append, wl_length, List.length_replicate]; omega
theorem wf_all (f : Nat → BitVec 32) (n : Nat) : wf f n n = wl f n := by rw [wf, Nat.sub_self]; exact List.append_nil _
theorem wf_set (f : Nat → BitVec 32) (n t : Nat) (h : t < n) : (wf f n t).set t (nxt f (wl f t) t) = wf f n (t + 1) := by
  unfold wf
  have hl := wl_length f t
  rw [List.set_append_right _ _ (by omega), hl, Nat.sub_self, show n - t = (n - (t + 1)) + 1 by omega, List.replicate_succ, List.set_cons_zero, wl, List.append_assoc]
  rfl
theorem wf_getD (f : Nat → BitVec 32) (n t j : Nat) (h : j < t) : (wf f n t)[j]? = some ((wl f t).getD j 0) := by
  have hl := wl_length f t
  unfold wf
  rw [List.getElem?_append_left (by omega), List.getD_eq_getElem?_getD, List.getElem?_eq_getElem (by omega)]
  rfl
/-- words as the cells of an array -/
def arr (l : List (BitVec 32)) : Array Value := (l.map fun x => Value.int .u32 (vN x)).toArray
theorem arr_size (l : List (BitVec 32)) : (arr l).size = l.length := by simp [arr]
theorem arr_get (l : List (BitVec 32)) (j : Nat) (x : BitVec 32) (h : l[j]? = some x) : (arr l)[j]? = some (.int .u32 (vN x)) := by simp [arr, h]
theorem arr_set (l : List (BitVec 32)) (j : Nat) (x : BitVec 32) : (arr l).setIfInBounds j (.int .u32 (vN x)) = arr (l.set j x) := by
  unfold arr
  rw [List.map_set]
  simp
theorem arr_one (l : List (BitVec 32)) : (arr l).all (·.oneCell') = true := by
  rw [Array.all_eq_true_iff_forall_mem]
  intro v hv
  simp [arr] at hv
  obtain ⟨x, _, rfl⟩ := hv
  rfl
/-- the eight words of a state -/
structure St where
  a : BitVec 32
  b : BitVec 32
  c : BitVec 32
  d : BitVec 32
  e : BitVec 32
  f : BitVec 32
  g : BitVec 32
  h : BitVec 32
def St.list (s : St) : List (BitVec 32) := [s.a, s.b, s.c, s.d, s.e, s.f, s.g, s.h]
def St.round (s : St) (k w : BitVec 32) : St :=
  ⟨s.h + mx1 s.e + cho s.e s.f s.g + k + w + (mx0 s.a + maj s.a s.b s.c), s.a, s.b, s.c, s.d + (s.h + mx1 s.e + cho s.e s.f s.g + k + w), s.e, s.f, s.g⟩
def rounds8 (k w : List (BitVec 32)) (s : St) : Nat → St
  | 0 => s
  | t + 1 => (rounds8 k w s t).round (k.getD t 0) (w.getD t 0)
def St.plus (s t : St) : St := ⟨s.a + t.a, s.b + t.b, s.c + t.c, s.d + t.d, s.e + t.e, s.f + t.f, s.g + t.g, s.h + t.h⟩
/-- the state behind 64 bytes -/
def piece (k : List (BitVec 32)) (s : St) (p : List UInt8) : St := s.plus (rounds8 k (wl (wd p) 64) s 64)
def kc : List (BitVec 32) := [
  0x428a2f98#32, 0x71374491#32, 0xb5c0fbcf#32, 0xe9b5dba5#32, 0x3956c25b#32, 0x59f111f1#32, 0x923f82a4#32, 0xab1c5ed5#32,
  0xd807aa98#32, 0x12835b01#32, 0x243185be#32, 0x550c7dc3#32, 0x72be5d74#32, 0x80deb1fe#32, 0x9bdc06a7#32, 0xc19bf174#32,
  0xe49b69c1#32, 0xefbe4786#32, 0x0fc19dc6#32, 0x240ca1cc#32, 0x2de92c6f#32, 0x4a7484aa#32, 0x5cb0a9dc#32, 0x76f988da#32,
  0x983e5152#32, 0xa831c66d#32, 0xb00327c8#32, 0xbf597fc7#32, 0xc6e00bf3#32, 0xd5a79147#32, 0x06ca6351#32, 0x14292967#32,
  0x27b70a85#32, 0x2e1b2138#32, 0x4d2c6dfc#32, 0x53380d13#32, 0x650a7354#32, 0x766a0abb#32, 0x81c2c92e#32, 0x92722c85#32,
  0xa2bfe8a1#32, 0xa81a664b#32, 0xc24b8b70#32, 0xc76c51a3#32, 0xd192e819#32, 0xd6990624#32, 0xf40e3585#32, 0x106aa070#32,
  0x19a4c116#32, 0x1e376c08#32, 0x2748774c#32, 0x34b0bcb5#32, 0x391c0cb3#32, 0x4ed8aa4a#32, 0x5b9cca4f#32, 0x682e6ff3#32,
  0x748f82ee#32, 0x78a5636f#32, 0x84c87814#32, 0x8cc70208#32, 0x90befffa#32, 0xa4506ceb#32, 0xbef9a3f7#32, 0xc67178f2#32]
theorem kc_length : kc.length = 64 := rfl
end Go.Proofs.YtjkapmghifglcaaDoor.Hk
/- Contracts of package hash's words and steps. -/
namespace Go.Proofs.YtjkapmghifglcaaDoor.Hk
set_option linter.unusedVariables false
open Go.ChangeShapes Go.WideShapes Go.ChangeAt Go.RowKit
/-- an array of words in a block of its own -/
def Row (w : World) (g : Nat) (t : TypeId) (l : List (BitVec 32)) : Prop := w.heap[g]? = some (.cells (arr l) t (0, 0))
theorem Row.cell {w : World} {g : Nat} {t : TypeId} {l : List (BitVec 32)} (h : Row w g t l) {j : Nat} {x : BitVec 32} (hx : l[j]? = some x) : w.cell? ⟨g, j, none⟩ = some (.int .u32 (vN x)) :=
  (cell_of_row w g j (arr l) t (0, 0) h).trans (arr_get l j x hx)
theorem Row.free {w : World} {g : Nat} {t : TypeId} {l : List (BitVec 32)} (h : Row w g t l) (j : Nat) : w.frozen? ⟨g, j, none⟩ = false := frozen_of_row w g j (arr l) t h
theorem Row.set {w : World} {g : Nat} {t : TypeId} {l : List (BitVec 32)} (h : Row w g t l) (j : Nat) (x : BitVec 32) : Row (w.setCell ⟨g, j, none⟩ (.int .u32 (vN x))) g t (l.set j x) := by
  have := heap_setCell_same w g j (arr l) t (.int .u32 (vN x)) h
  rw [arr_set] at this
  exact this
theorem Row.other {w : World} {g : Nat} {t : TypeId} {l : List (BitVec 32)} (h : Row w g t l) (g' j : Nat) (v : Value) (hne : g ≠ g') : Row (w.setCell ⟨g', j, none⟩ v) g t l :=
  (heap_setCell_other w ⟨g', j, none⟩ g v hne).trans h
theorem Row.drew {w : World} {g : Nat} {t : TypeId} {l : List (BitVec 32)} (h : Row w g t l) : Row w.drew g t l := h
theorem byte_get (s : ByteArray) (j : Nat) (h : j < s.size) : s[j] = s.data.toList.getD j 0 := by
  rw [List.getD_eq_getElem?_getD, List.getElem?_eq_getElem (by simpa using h)]
  rfl
theorem wd_get (s : ByteArray) (t : Nat) (h : 4 * t + 3 < s.size) : wd s.data.toList t = word4 (s[4 * t]'(by omega)) (s[4 * t + 1]'(by omega)) (s[4 * t + 2]'(by omega)) (s[4 * t + 3]'(by omega)) := by
  rw [wd, byte_get, byte_get, byte_get, byte_get]
theorem nxt_low (f : Nat → BitVec 32) (l : List (BitVec 32)) (t : Nat) (h : t < 16) : nxt f l t = f t := by rw [nxt, if_pos h]
theorem nxt_high (f : Nat → BitVec 32) (l : List (BitVec 32)) (t : Nat) (h : ¬ t < 16) : nxt f l t = sp1 (l.getD (t - 2) 0) + l.getD (t - 7) 0 + sp0 (l.getD (t - 15) 0) + l.getD (t - 16) 0 := by rw [nxt, if_neg h]
theorem below_setRow {B : Nat} {w w1 : World} (h : Below B w w1) {g : Nat} (hg : B ≤ g) (cs : Array Value) : Below B w (w1.setRow g cs) :=
  h.trans ⟨rfl, rfl, rfl, by simp, fun k hk => setRow_other w1 g k cs (by omega)⟩
theorem infoW : (Tryd.prog.info? 124).map (·.size) = some 64 := by kernel_rfl
theorem vN_wadd (a b : BitVec 32) : IntKind.u32.wrap (vN a + vN b) = vN (a + b) := by rw [IntKind.wrap_u32', vN_add]
theorem spread0_still (x : BitVec 32) (w : World) : Calls Tryd.prog 97 #[.int .u32 (vN x)] w fun e w' => e = .returned (.int .u32 (vN (sp0 x))) ∧ w' = w := (spread0_any x w).mono fun _ _ h => ⟨h.1, h.2.symm⟩
theorem spread1_still (x : BitVec 32) (w : World) : Calls Tryd.prog 96 #[.int .u32 (vN x)] w fun e w' => e = .returned (.int .u32 (vN (sp1 x))) ∧ w' = w := (spread1_any x w).mono fun _ _ h => ⟨h.1, h.2.symm⟩
set_option maxRecDepth 100000 in
set_option maxHeartbeats 1000000 in
theorem words_any (s : ByteArray) (hs : s.size = 64) (w : World) :
    Calls Tryd.prog 82 #[.string s] w fun e w' => e = .returned (.agg (arr (wl (wd s.data.toList) 64))) ∧ Below w.heap.size w w' := by
  have HS := Lib.hid hs
  have hs' : (64 : Int) ≤ s.size := by omega
  clear hs
  go_enter Tryd.func82, Tryd.ntmps82
  go_wp2
  go_loopw [6] (fun v wr => ∃ t : Nat, t ≤ 16 ∧ v = .int .i64 t ∧ Row wr w.heap.size 124 (List.replicate 64 0#32) ∧ Row wr (w.heap.size + 1) 124 (wf (wd s.data.toList) 64 t) ∧ Below w.heap.size w wr) (fun v _ => 16 - (intOf v).toNat)
  case atStart => exact ⟨0, Nat.zero_le _, rfl, heap_alloc2_old w _ _, heap_alloc2_new w _ _, ((Below.refl _ _).alloc (Nat.le_refl _) _).alloc (by simp) _⟩
  case round =>
    obtain ⟨t, ht, rfl, hr0, hr1, hbel⟩ := hrel
    by_cases hlt : t < 16
    · have j0 : 4 * t < s.size := by have := HS.out; omega
      have j1 : 4 * t + 1 < s.size := by have := HS.out; omega
      have j2 : 4 * t + 2 < s.size := by have := HS.out; omega
      have j3 : 4 * t + 3 < s.size := by have := HS.out; omega
      have HW := Lib.hid (word4_n (s[4 * t]'j0) (s[4 * t + 1]'j1) (s[4 * t + 2]'j2) (s[4 * t + 3]'j3))
      have HN := Lib.hid (show nxt (wd s.data.toList) (wl (wd s.data.toList) t) t = word4 (s[4 * t]'j0) (s[4 * t + 1]'j1) (s[4 * t + 2]'j2) (s[4 * t + 3]'j3) by rw [nxt_low _ _ _ hlt, wd_get _ _ j3])
      obtain ⟨x, hx⟩ : ∃ x, (wf (wd s.data.toList) 64 t)[t]? = some x := ⟨_, List.getElem?_eq_getElem (by rw [wf_length _ _ _ (by omega)]; omega)⟩
      have hc := hr1.cell hx
      have hf := hr1.free t
      have H0 := Lib.hid hr0
      have H1 := Lib.hid hr1
      have i0 : 4 * (t : Int) < s.size := by omega
      have i1 : 4 * (t : Int) + 1 < s.size := by omega
      have i2 : 4 * (t : Int) + 2 < s.size := by omega
      have i3 : 4 * (t : Int) + 3 < s.size := by omega
      clear hr0 hr1 hx
      have q0 : IntKind.i64.wrap (4 * (t : Int)) = 4 * (t : Int) := IntWalk.i64_in _ ⟨by omega, by omega⟩
      have q1 : IntKind.i64.wrap (4 * (t : Int) + 1) = 4 * (t : Int) + 1 := IntWalk.i64_in _ ⟨by omega, by omega⟩
      have q2 : IntKind.i64.wrap (4 * (t : Int) + 2) = 4 * (t : Int) + 2 := IntWalk.i64_in _ ⟨by omega, by omega⟩
      have q3 : IntKind.i64.wrap (4 * (t : Int) + 3) = 4 * (t : Int) + 3 := IntWalk.i64_in _ ⟨by omega, by omega⟩
      have p0 : (4 * (t : Int)).toNat = 4 * t := by omega
      have p1 : (4 * (t : Int) + 1).toNat = 4 * t + 1 := by omega
      have p2 : (4 * (t : Int) + 2).toNat = 4 * t + 2 := by omega
      have p3 : (4 * (t : Int) + 3).toNat = 4 * t + 3 := by omega
      have n0 : 0 ≤ 4 * (t : Int) := by omega
      have n1 : 0 ≤ 4 * (t : Int) + 1 := by omega
      have n2 : 0 ≤ 4 * (t : Int) + 2 := by omega
      have n3 : 0 ≤ 4 * (t : Int) + 3 := by omega
      have t0 : 0 ≤ (t : Int) := by omega
      have t1 : (t : Int) < 64 := by omega
      have b0 := wrap_b
      have b1 := wrap_b8
      have b2 := wrap_b16
      have b3 := wrap_b24
      go_wp2
      go_still_tail 31, (by kernel_rfl)
      change wpList _ _ _ _ _ wr.drew
      have HD := Lib.hid (show Row wr.drew (w.heap.size + 1) 124 (wf (wd s.data.toList) 64 t) from H1.out)
      have HE := Lib.hid (show Row wr.drew w.heap.size 124 (List.replicate 64 0#32) from H0.out)
      have hc' : wr.drew.cell? ⟨w.heap.size + 1, t, none⟩ = some (.int .u32 (vN x)) := hc
      have hf' : wr.drew.frozen? ⟨w.heap.size + 1, t, none⟩ = false := hf
      have hbel' : Below w.heap.size w wr.drew := hbel.drew
      clear hc hf hbel H0 H1
      generalize wr.drew = w2 at *
      rw [HW.out]
      go_wp2
      go_roundw
      case rel =>
        have hs1 := HD.out.set t (word4 (s[4 * t]'j0) (s[4 * t + 1]'j1) (s[4 * t + 2]'j2) (s[4 * t + 3]'j3))
        have hn := wf_set (wd s.data.toList) 64 t (by omega)
        rw [HN.out] at hn
        rw [hn] at hs1
        exact ⟨t + 1, by omega, by go_num, HE.out.other (w.heap.size + 1) t _ (by omega), hs1, hbel'.setCell (p := ⟨w.heap.size + 1, t, none⟩) (by show w.heap.size ≤ w.heap.size + 1; omega) _⟩
      case measure => simp [intOf]; omega
    · obtain rfl : t = 16 := by omega
      obtain ⟨wo, rfl⟩ : ∃ wo : World, wo = wr := ⟨_, rfl⟩
      have H0 := Lib.hid hr0
      have H1 := Lib.hid hr1
      clear hr0 hr1
      go_wp2
      go_loopw [5] (fun v wr => ∃ t : Nat, 16 ≤ t ∧ t ≤ 64 ∧ v = .int .i64 t ∧ Row wr w.heap.size 124 (List.replicate 64 0#32) ∧ Row wr (w.heap.size + 1) 124 (wf (wd s.data.toList) 64 t) ∧ Below w.heap.size w wr) (fun v _ => 64 - (intOf v).toNat)
      case atStart => exact ⟨16, Nat.le_refl _, by omega, rfl, H0.out, H1.out, hbel⟩
      case round =>
        obtain ⟨t, ht0, ht, rfl, hr0, hr1, hbel⟩ := hrel
        by_cases hlt : t < 64
        · obtain ⟨x, hx⟩ : ∃ x, (wf (wd s.data.toList) 64 t)[t]? = some x := ⟨_, List.getElem?_eq_getElem (by rw [wf_length _ _ _ (by omega)]; omega)⟩
          have hc := hr1.cell hx
          have hf := hr1.free t
          obtain ⟨m2, hm2⟩ : ∃ m : Nat, m = t - 2 := ⟨_, rfl⟩
          have g2 := hr1.cell (wf_getD (wd s.data.toList) 64 t m2 (by omega))
          have q2 : IntKind.i64.wrap ((t : Int) - 2) = (m2 : Int) := by rw [IntWalk.i64_in _ ⟨by omega, by omega⟩]; omega
          have n2 : 0 ≤ (m2 : Int) := by omega
          have l2 : (m2 : Int) < 64 := by omega
          obtain ⟨m7, hm7⟩ : ∃ m : Nat, m = t - 7 := ⟨_, rfl⟩
          have g7 := hr1.cell (wf_getD (wd s.data.toList) 64 t m7 (by omega))
          have q7 : IntKind.i64.wrap ((t : Int) - 7) = (m7 : Int) := by rw [IntWalk.i64_in _ ⟨by omega, by omega⟩]; omega
          have n7 : 0 ≤ (m7 : Int) := by omega
          have l7 : (m7 : Int) < 64 := by omega
          obtain ⟨m15, hm15⟩ : ∃ m : Nat, m = t - 15 := ⟨_, rfl⟩
          have g15 := hr1.cell (wf_getD (wd s.data.toList) 64 t m15 (by omega))
          have q15 : IntKind.i64.wrap ((t : Int) - 15) = (m15 : Int) := by rw [IntWalk.i64_in _ ⟨by omega, by omega⟩]; omega
          have n15 : 0 ≤ (m15 : Int) := by omega
          have l15 : (m15 : Int) < 64 := by omega
          obtain ⟨m16, hm16⟩ : ∃ m : Nat, m = t - 16 := ⟨_, rfl⟩
          have g16 := hr1.cell (wf_getD (wd s.data.toList) 64 t m16 (by omega))
          have q16 : IntKind.i64.wrap ((t : Int) - 16) = (m16 : Int) := by rw [IntWalk.i64_in _ ⟨by omega, by omega⟩]; omega
          have n16 : 0 ≤ (m16 : Int) := by omega
          have l16 : (m16 : Int) < 64 := by omega
          have HD := Lib.hid (show Row wr.drew (w.heap.size + 1) 124 (wf (wd s.data.toList) 64 t) from hr1)
          have HE := Lib.hid (show Row wr.drew w.heap.size 124 (List.replicate 64 0#32) from hr0)
          have hn := nxt_high (wd s.data.toList) (wl (wd s.data.toList) t) t (by omega)
          rw [← hm2, ← hm7, ← hm15, ← hm16] at hn
          have HN := Lib.hid hn
          clear hr0 hr1 hx hn hm2 hm7 hm15 hm16
          generalize (wl (wd s.data.toList) t).getD m2 0 = x2 at *
          generalize (wl (wd s.data.toList) t).getD m7 0 = x7 at *
          generalize (wl (wd s.data.toList) t).getD m15 0 = x15 at *
          generalize (wl (wd s.data.toList) t).getD m16 0 = x16 at *
          have t0 : 0 ≤ (t : Int) := by omega
          have t1 : (t : Int) < 64 := by omega
          have X := vN_wadd
          go_wp2
          go_still_tail 23, (by kernel_rfl)
          still_call (spread1_still _ _)
          repeat still_step
          still_call (spread0_still _ _)
          repeat still_step
          refine wpStill_nil ?_
          change wpList _ _ _ _ _ wr.drew
          have hc' : wr.drew.cell? ⟨w.heap.size + 1, t, none⟩ = some (.int .u32 (vN x)) := hc
          have hf' : wr.drew.frozen? ⟨w.heap.size + 1, t, none⟩ = false := hf
          have hbel' : Below w.heap.size w wr.drew := hbel.drew
          clear hc hf hbel g2 g7 g15 g16
          generalize wr.drew = w2 at *
          go_wp2
          go_roundw
          case rel =>
            have hs1 := HD.out.set t (sp1 x2 + x7 + sp0 x15 + x16)
            have hn := wf_set (wd s.data.toList) 64 t hlt
            rw [HN.out] at hn
            rw [hn] at hs1
            repeat apply Exists.intro
            exact ⟨⟨t + 1, by omega, by omega, by go_num, HE.out.other (w.heap.size + 1) t _ (by omega), hs1, hbel'.setCell (p := ⟨w.heap.size + 1, t, none⟩) (by show w.heap.size ≤ w.heap.size + 1; omega) _⟩, rfl⟩
          case measure => simp [intOf]; omega
        · obtain rfl : t = 64 := by omega
          rw [wf_all] at hr1
          have hz : (arr (wl (wd s.data.toList) 64)).size = 64 := by rw [arr_size, wl_length]
          have hz0 : (arr (List.replicate 64 0#32)).size = 64 := by rw [arr_size, List.length_replicate]
          have hone := arr_one (wl (wd s.data.toList) 64)
          have hR0 : wr.heap[w.heap.size]? = some (.cells (arr (List.replicate 64 0#32)) 124 (0, 0)) := hr0
          have hR1 : wr.heap[w.heap.size + 1]? = some (.cells (arr (wl (wd s.data.toList) 64)) 124 (0, 0)) := hr1
          have hi : (Tryd.prog.info? 124).map (·.size) = some (arr (wl (wd s.data.toList) 64)).size := by rw [hz]; exact infoW
          obtain ⟨C, hC⟩ : ∃ C, C = arr (wl (wd s.data.toList) 64) := ⟨_, rfl⟩
          obtain ⟨C0, hC0⟩ : ∃ C, C = arr (List.replicate 64 0#32) := ⟨_, rfl⟩
          rw [← hC] at hz hone hR1 hi
          rw [← hC0] at hz0 hR0
          have HC := Lib.hid hC
          have Z := Lib.hid (show C0.size = C.size by omega)
          have R0 := Lib.hid hR0
          have R1 := Lib.hid hR1
          have I := Lib.hid hi
          have O := Lib.hid hone
          clear hC hC0 hz hz0 hR0 hR1 hi hone hr0 hr1
          go_wp2_with (first
            | (refine wpList_load_row rfl 124 (.tmp 3) rfl (w.heap.size + 1) rfl 124 C (0, 0) _ R1.out Tryd.underlying124 rfl I.out ?_)
            | (refine wpList_store_row rfl 124 (.tmp 2) (.tmp 68) rfl w.heap.size C rfl rfl 124 C0 R0.out I.out Z.out O.out ?_))
          have hg2 := setRow_heap wr w.heap.size C0 C 124 (0, 0) R0.out
          refine bodyPost_ret (v := .agg C) (results_cell_row rfl _ _ w.heap.size 124 C (0, 0) _ rfl hg2 Tryd.underlying124 rfl I.out) rfl ⟨by rw [HC.out], below_setRow hbel (Nat.le_refl _) C⟩
end Go.Proofs.YtjkapmghifglcaaDoor.Hk
/- Contract of package hash's step: the state behind a piece of those words. -/
namespace Go.Proofs.YtjkapmghifglcaaDoor.Hk
set_option linter.unusedVariables false
open Go.ChangeShapes Go.WideShapes Go.ChangeAt Go.RowKit
variable {tK tS : TypeId}
def stV (s : St) : Array Value := #[.int .u32 (vN s.a), .int .u32 (vN s.b), .int .u32 (vN s.c), .int .u32 (vN s.d), .int .u32 (vN s.e), .int .u32 (vN s.f), .int .u32 (vN s.g), .int .u32 (vN s.h)]
theorem infoS8 {s : St} : (Tryd.prog.info? 94).map (·.size) = some (stV s).size := by kernel_rfl
theorem stV_one (s : St) : (stV s).all (·.oneCell') = true := arr_one s.list
theorem mix0_still (x : BitVec 32) (w : World) : Calls Tryd.prog 94 #[.int .u32 (vN x)] w fun e w' => e = .returned (.int .u32 (vN (mx0 x))) ∧ w' = w := (mix0_any x w).mono fun _ _ h => ⟨h.1, h.2.symm⟩
theorem mix1_still (x : BitVec 32) (w : World) : Calls Tryd.prog 92 #[.int .u32 (vN x)] w fun e w' => e = .returned (.int .u32 (vN (mx1 x))) ∧ w' = w := (mix1_any x w).mono fun _ _ h => ⟨h.1, h.2.symm⟩
theorem choice_still (x y z : BitVec 32) (w : World) : Calls Tryd.prog 93 #[.int .u32 (vN x), .int .u32 (vN y), .int .u32 (vN z)] w fun e w' => e = .returned (.int .u32 (vN (cho x y z))) ∧ w' = w := (choice_any x y z w).mono fun _ _ h => ⟨h.1, h.2.symm⟩
theorem alloc3_0 (w : World) (a b c : Obj) (n : Nat) : ((((w.alloc a).alloc b).alloc c).drewN n).heap[w.heap.size]? = some a := by
  show (((w.heap.push a).push b).push c)[w.heap.size]? = _
  rw [Array.getElem?_push, if_neg (by simp; omega), Array.getElem?_push, if_neg (by simp), Array.getElem?_push, if_pos rfl]
theorem alloc3_1 (w : World) (a b c : Obj) (n : Nat) : ((((w.alloc a).alloc b).alloc c).drewN n).heap[w.heap.size + 1]? = some b := by
  show (((w.heap.push a).push b).push c)[w.heap.size + 1]? = _
  rw [Array.getElem?_push, if_neg (by simp), Array.getElem?_push, if_pos (by simp)]
theorem alloc3_2 (w : World) (a b c : Obj) (n : Nat) : ((((w.alloc a).alloc b).alloc c).drewN n).heap[w.heap.size + 1 + 1]? = some c := by
  show (((w.heap.push a).push b).push c)[w.heap.size + 1 + 1]? = _
  rw [Array.getElem?_push, if_pos (by simp)]
theorem alloc3_below (w : World) (a b c : Obj) (n : Nat) : Below w.heap.size w ((((w.alloc a).alloc b).alloc c).drewN n) := by
  have := (((Below.refl w.heap.size w).alloc (Nat.le_refl _) a).alloc (by simp) b).alloc (by simp; omega) c
  exact ⟨this.os, this.tape, this.output, this.size, this.block⟩
set_option maxRecDepth 100000 in
set_option maxHeartbeats 1000000 in
theorem step_any (s : St) (K W : List (BitVec 32)) (hW : W.length = 64) (hK : K.length = 64) (w : World) (hg : 1 < w.heap.size) (hR : Row w 1 tK K) :
    Calls Tryd.prog 81 #[.agg #[.int .u32 (vN s.a), .int .u32 (vN s.b), .int .u32 (vN s.c), .int .u32 (vN s.d), .int .u32 (vN s.e), .int .u32 (vN s.f), .int .u32 (vN s.g), .int .u32 (vN s.h)], .agg (arr W)] w fun e w' => e = .returned (.agg (stV (s.plus (rounds8 K W s 64)))) ∧ Below w.heap.size w w' := by
  have HR := Lib.hid hR
  have HW := Lib.hid hW
  have HK := Lib.hid hK
  clear hR hW hK
  go_enter Tryd.func81, Tryd.ntmps81
  go_wp2
  go_quiet (fail)
  go_wp2
  go_loopw [5, 6, 7, 8, 9, 10, 11, 12, 32] (fun v5 v6 v7 v8 v9 v10 v11 v12 v wr => ∃ t : Nat, ∃ q : St, t ≤ 64 ∧ v = .int .i64 t ∧ q = rounds8 K W s t ∧ v5 = .int .u32 (vN q.a) ∧ v6 = .int .u32 (vN q.b) ∧ v7 = .int .u32 (vN q.c) ∧ v8 = .int .u32 (vN q.d) ∧ v9 = .int .u32 (vN q.e) ∧ v10 = .int .u32 (vN q.f) ∧ v11 = .int .u32 (vN q.g) ∧ v12 = .int .u32 (vN q.h) ∧
      Row wr w.heap.size 94 s.list ∧ Row wr (w.heap.size + 1) 124 W ∧ Row wr (w.heap.size + 1 + 1) 94 (List.replicate 8 0#32) ∧ Below w.heap.size w wr) (fun _ _ _ _ _ _ _ _ v _ => 64 - (intOf v).toNat)
  case atStart => exact ⟨0, s, Nat.zero_le _, rfl, rfl, rfl, rfl, rfl, rfl, rfl, rfl, rfl, rfl, alloc3_0 w _ _ _ _, alloc3_1 w _ _ _ _, alloc3_2 w _ _ _ _, alloc3_below w _ _ _ _⟩
  case round =>
    obtain ⟨t, q, ht, rfl, hq, rfl, rfl, rfl, rfl, rfl, rfl, rfl, rfl, r0, r1, r2, hbel⟩ := hrel
    have HQ := Lib.hid hq
    clear hq
    by_cases hlt : t < 64
    · obtain ⟨wt, hwt⟩ : ∃ x, W[t]? = some x := ⟨_, List.getElem?_eq_getElem (by rw [HW.out]; exact hlt)⟩
      obtain ⟨kt, hkt⟩ : ∃ x, K[t]? = some x := ⟨_, List.getElem?_eq_getElem (by rw [HK.out]; exact hlt)⟩
      have cw := r1.cell hwt
      have ck : wr.cell? ⟨1, t, none⟩ = some (.int .u32 (vN kt)) := by rw [hbel.cell hg]; exact HR.out.cell hkt
      have HN := Lib.hid (show rounds8 K W s (t + 1) = q.round kt wt by rw [rounds8, ← HQ.out, List.getD_eq_getElem?_getD, List.getD_eq_getElem?_getD, hwt, hkt]; rfl)
      have H0 := Lib.hid r0
      have H1 := Lib.hid r1
      have H2 := Lib.hid r2
      clear hwt hkt r0 r1 r2
      have t0 : 0 ≤ (t : Int) := by omega
      have t1 : (t : Int) < 64 := by omega
      have X := vN_wadd
      go_wp2
      go_quiet ((first | (go_at_call 92; exact Calls.quiet_of_same (mix1_still _ _)) | (go_at_call 93; exact Calls.quiet_of_same (choice_still _ _ _ _))))
      go_wp2_with (first
        | (go_at_call 94; refine (mix0_any _ _).mono ?_; rintro e w' ⟨rfl, rfl⟩)
        | (go_at_call 95; refine (maj_any _ _ _ _).mono ?_; rintro e w' ⟨rfl, rfl⟩))
      go_roundw
      case rel => exact ⟨t + 1, q.round kt wt, by omega, by go_num, HN.out.symm, rfl, rfl, rfl, rfl, rfl, rfl, rfl, rfl, H0.out, H1.out, H2.out, ⟨hbel.os, hbel.tape, hbel.output, hbel.size, hbel.block⟩⟩
      case measure => simp [intOf]; omega
    · obtain rfl : t = 64 := by omega
      have X := vN_wadd
      have c0 := r0.cell (j := 0) (x := s.a) rfl
      have c1 := r0.cell (j := 1) (x := s.b) rfl
      have c2 := r0.cell (j := 2) (x := s.c) rfl
      have c3 := r0.cell (j := 3) (x := s.d) rfl
      have c4 := r0.cell (j := 4) (x := s.e) rfl
      have c5 := r0.cell (j := 5) (x := s.f) rfl
      have c6 := r0.cell (j := 6) (x := s.g) rfl
      have c7 := r0.cell (j := 7) (x := s.h) rfl
      have R2 := Lib.hid (show wr.heap[w.heap.size + 1 + 1]? = some (.cells (arr (List.replicate 8 0#32)) 94 (0, 0)) from r2)
      clear r0 r1 r2
      go_wp2_with (first
        | (refine wpList_store_row rfl 94 (.tmp 4) (.tmp 104) rfl (w.heap.size + 1 + 1) (stV (s.plus q)) rfl rfl 94 (arr (List.replicate 8 0#32)) R2.out infoS8 rfl (stV_one _) ?_))
      have hg2 := setRow_heap wr (w.heap.size + 1 + 1) (arr (List.replicate 8 0#32)) (stV (s.plus q)) 94 (0, 0) R2.out
      refine bodyPost_ret (v := .agg (stV (s.plus q))) (results_cell_row rfl _ _ (w.heap.size + 1 + 1) 94 (stV (s.plus q)) (0, 0) _ rfl hg2 Tryd.underlying94 rfl infoS8) rfl ⟨by rw [HQ.out], below_setRow hbel (by omega) _⟩
end Go.Proofs.YtjkapmghifglcaaDoor.Hk
/- Contract of package hash's through: the state behind a text of whole pieces. -/
namespace Go.Proofs.YtjkapmghifglcaaDoor.Hk
set_option linter.unusedVariables false
open Go.ChangeShapes Go.WideShapes Go.ChangeAt Go.RowKit
variable {tK tS : TypeId}
def pieces (K : List (BitVec 32)) (s : St) (l : List UInt8) : Nat → St
  | 0 => s
  | n + 1 => piece K (pieces K s l n) ((l.drop (64 * n)).take 64)
theorem row_below {w w' : World} {B g : Nat} {t : TypeId} {l : List (BitVec 32)} (h : Row w g t l) (hb : Below B w w') (hg : g < B) : Row w' g t l := (hb.block g hg).trans h
theorem cell_below {w w' : World} {b o : Nat} {v : Value} (h : w.cell? ⟨b, o, none⟩ = some v) (hb : Below w.heap.size w w') (hl : b < w.heap.size) : w'.cell? ⟨b, o, none⟩ = some v := (hb.cell hl).trans h
theorem Row.lt {w : World} {g : Nat} {t : TypeId} {l : List (BitVec 32)} (h : Row w g t l) : g < w.heap.size := by
  rcases Nat.lt_or_ge g w.heap.size with h' | h'
  · exact h'
  · unfold Row at h
    rw [Array.getElem?_eq_none h'] at h
    cases h
def Eight (w : World) (B : Nat) (s : St) : Prop := w.cell? ⟨B, 0, none⟩ = some (.int .u32 (vN s.a)) ∧ w.cell? ⟨B, 1, none⟩ = some (.int .u32 (vN s.b)) ∧ w.cell? ⟨B, 2, none⟩ = some (.int .u32 (vN s.c)) ∧ w.cell? ⟨B, 3, none⟩ = some (.int .u32 (vN s.d)) ∧ w.cell? ⟨B, 4, none⟩ = some (.int .u32 (vN s.e)) ∧ w.cell? ⟨B, 5, none⟩ = some (.int .u32 (vN s.f)) ∧ w.cell? ⟨B, 6, none⟩ = some (.int .u32 (vN s.g)) ∧ w.cell? ⟨B, 7, none⟩ = some (.int .u32 (vN s.h))
theorem Row.eight {w : World} {g : Nat} {t : TypeId} {s : St} (h : Row w g t s.list) : Eight w g s :=
  ⟨h.cell (j := 0) rfl, h.cell (j := 1) rfl, h.cell (j := 2) rfl, h.cell (j := 3) rfl, h.cell (j := 4) rfl, h.cell (j := 5) rfl, h.cell (j := 6) rfl, h.cell (j := 7) rfl⟩
theorem eight_below {w w' : World} {B : Nat} {s : St} (h : Eight w B s) (hb : Below w.heap.size w w') (hl : B < w.heap.size) : Eight w' B s :=
  ⟨cell_below h.1 hb hl, cell_below h.2.1 hb hl, cell_below h.2.2.1 hb hl, cell_below h.2.2.2.1 hb hl, cell_below h.2.2.2.2.1 hb hl, cell_below h.2.2.2.2.2.1 hb hl, cell_below h.2.2.2.2.2.2.1 hb hl, cell_below h.2.2.2.2.2.2.2 hb hl⟩
theorem words_lit (s : ByteArray) (hs : s.size = 64) (w : World) :
    Calls Tryd.prog 82 #[.string s] w fun e w' => ∃ W, W = wl (wd s.data.toList) 64 ∧ e = .returned (.agg (arr W)) ∧ Below w.heap.size w w' :=
  (words_any s hs w).mono fun _ _ h => ⟨_, rfl, h.1, h.2⟩
theorem wl_len {W : List (BitVec 32)} {f : Nat → BitVec 32} {n : Nat} (h : W = wl f n) : W.length = n := by rw [h, wl_length]
theorem step_lit (s : St) (K W : List (BitVec 32)) (hW : W.length = 64) (hK : K.length = 64) (w : World) (hg : 1 < w.heap.size) (hR : Row w 1 tK K) :
    Calls Tryd.prog 81 #[.agg #[.int .u32 (vN s.a), .int .u32 (vN s.b), .int .u32 (vN s.c), .int .u32 (vN s.d), .int .u32 (vN s.e), .int .u32 (vN s.f), .int .u32 (vN s.g), .int .u32 (vN s.h)], .agg (arr W)] w fun e w' => ∃ p : St, p = s.plus (rounds8 K W s 64) ∧ e = .returned (.agg #[.int .u32 (vN p.a), .int .u32 (vN p.b), .int .u32 (vN p.c), .int .u32 (vN p.d), .int .u32 (vN p.e), .int .u32 (vN p.f), .int .u32 (vN p.g), .int .u32 (vN p.h)]) ∧ Below w.heap.size w w' :=
  (step_any s K W hW hK w hg hR).mono fun _ _ h => ⟨_, rfl, h.1, h.2⟩
set_option maxRecDepth 100000 in
set_option maxHeartbeats 1000000 in
theorem through_any (s : St) (K : List (BitVec 32)) (hK : K.length = 64) (x : ByteArray) (n : Nat) (hx : x.size = 64 * n) (hxl : x.size ≤ 281474976710656) (w : World) (hg : 1 < w.heap.size) (hR : Row w 1 tK K) :
    Calls Tryd.prog 60 #[.agg #[.int .u32 (vN s.a), .int .u32 (vN s.b), .int .u32 (vN s.c), .int .u32 (vN s.d), .int .u32 (vN s.e), .int .u32 (vN s.f), .int .u32 (vN s.g), .int .u32 (vN s.h)], .string x] w fun e w' => e = .returned (.agg (stV (pieces K s x.data.toList n))) ∧ Below w.heap.size w w' := by
  have HR := Lib.hid hR
  have HX := Lib.hid hx
  clear hR hx
  go_enter Tryd.func60, Tryd.ntmps60
  go_wp2
  go_loopw [5] (fun v wr => ∃ t : Nat, t ≤ n ∧ v = .int .i64 (64 * t : Nat) ∧ Row wr w.heap.size 94 (pieces K s x.data.toList t).list ∧ Row wr (w.heap.size + 1) 94 (List.replicate 8 0#32) ∧ Below w.heap.size w wr) (fun v _ => x.size - (intOf v).toNat)
  case atStart => exact ⟨0, Nat.zero_le _, rfl, heap_alloc2_old w _ _, heap_alloc2_new w _ _, ((Below.refl _ _).alloc (Nat.le_refl _) _).alloc (by simp) _⟩
  case round =>
    obtain ⟨t, ht, rfl, r0, r1, hbel⟩ := hrel
    by_cases hlt : t < n
    · obtain ⟨m, hm⟩ : ∃ m, m = 64 * t := ⟨_, rfl⟩
      rw [← hm]
      have hm1 : m + 64 ≤ x.size := by have := HX.out; omega
      have hm2 : (m : Int) < x.size := by omega
      obtain ⟨q, hq⟩ : ∃ q, q = pieces K s x.data.toList t := ⟨_, rfl⟩
      rw [← hq] at r0
      have C := r0.eight
      unfold Eight at C
      have hB := r0.lt
      have HM := Lib.hid hm
      have HQ := Lib.hid hq
      clear hm hq
      have hwr : IntKind.i64.wrap ((m : Int) + 64) = (m : Int) + 64 := IntWalk.i64_in _ ⟨by omega, by omega⟩
      have z0 : 0 ≤ (m : Int) := by omega
      have z1 : (m : Int) + 64 ≤ x.size := by omega
      have z2 : (m : Int) ≤ (m : Int) + 64 := by omega
      have z3 : 0 ≤ (m : Int) + 64 := by omega
      have z4 : ((m : Int) + 64).toNat = m + 64 := by omega
      have hsz : (x.extract m (m + 64)).size = 64 := by rw [ByteArray.size_extract]; omega
      have HSZ := Lib.hid hsz
      have hrK : Row wr 1 tK K := row_below HR.out hbel hg
      have HRK := Lib.hid hrK
      have R0 := Lib.hid r0
      have R1 := Lib.hid r1
      have RD0 := Lib.hid (show Row wr.drew w.heap.size 94 q.list from r0)
      have RD1 := Lib.hid (show Row wr.drew (w.heap.size + 1) 94 (List.replicate 8 0#32) from r1)
      have hB1 : w.heap.size + 1 < wr.drew.heap.size := r1.lt
      have HE := Lib.hid (show Eight wr.drew w.heap.size q from r0.eight)
      have HRD := Lib.hid (show Row wr.drew 1 tK K from hrK)
      have hbd : Below w.heap.size w wr.drew := hbel.drew
      clear hsz hrK r0 r1 hm1
      go_wp2
      go_region_with (first
          | (go_at_call 82; (with_reducible refine (words_lit _ HSZ.out _).mono ?_); rintro e w5 ⟨W5, hW5, rfl, hb5⟩; have HL := Lib.hid (wl_len hW5); have HW5 := Lib.hid hW5; clear hW5; have C5 := eight_below HE.out hb5 hB; unfold Eight at C5; have hl5 := hb5.size; have K5 := Lib.hid (row_below HRD.out hb5 (Nat.lt_of_lt_of_le hg hbd.size)); have E5 := Lib.hid (row_below RD0.out hb5 hB); have F5 := Lib.hid (row_below RD1.out hb5 hB1); have B5 := Lib.hid (hbd.trans (hb5.mono hbd.size)))
          | (go_at_call 81; (with_reducible refine (step_lit q K W5 HL.out hK _ (Nat.lt_of_lt_of_le (Nat.lt_of_lt_of_le hg hbd.size) hl5) K5.out).mono ?_); rintro e w6 ⟨p, hp, rfl, hb6⟩; have HP := Lib.hid hp; clear hp; have E6 := row_below E5.out hb6 (Nat.lt_of_lt_of_le hB hl5); have F6 := Lib.hid (row_below F5.out hb6 (Nat.lt_of_lt_of_le hB1 hl5)); have B6 := Lib.hid (B5.out.trans (hb6.mono B5.out.size)); have C6 := E6.eight; unfold Eight at C6; have G6 := Lib.hid E6; have fr := E6.free; clear E6))
      all_goals
        go_wp2
        go_roundw
        case rel =>
          have hne : w.heap.size + 1 ≠ w.heap.size := by omega
          have hrow : Row _ w.heap.size 94 p.list := ((((((((G6.out.set 0 p.a).set 1 p.b).set 2 p.c).set 3 p.d).set 4 p.e).set 5 p.f).set 6 p.g).set 7 p.h)
          have hp : p = pieces K s x.data.toList (t + 1) := by
            rw [HP.out, HW5.out, pieces, ← HQ.out, piece, Lib.extract_data, ← HM.out, show m + 64 - m = 64 by omega]
          rw [hp] at hrow
          refine ⟨t + 1, by omega, ?_, ?_, ?_, ?_⟩
          · rw [show 64 * (t + 1) = m + 64 by have := HM.out; omega]; go_num
          · rw [← hp] at hrow ⊢; exact hrow
          · exact ((((((((F6.out.other w.heap.size 0 _ hne).other w.heap.size 1 _ hne).other w.heap.size 2 _ hne).other w.heap.size 3 _ hne).other w.heap.size 4 _ hne).other w.heap.size 5 _ hne).other w.heap.size 6 _ hne).other w.heap.size 7 _ hne)
          · exact ((((((((B6.out.setCell (p := ⟨w.heap.size, 0, none⟩) (Nat.le_refl _) _).setCell (p := ⟨w.heap.size, 1, none⟩) (Nat.le_refl _) _).setCell (p := ⟨w.heap.size, 2, none⟩) (Nat.le_refl _) _).setCell (p := ⟨w.heap.size, 3, none⟩) (Nat.le_refl _) _).setCell (p := ⟨w.heap.size, 4, none⟩) (Nat.le_refl _) _).setCell (p := ⟨w.heap.size, 5, none⟩) (Nat.le_refl _) _).setCell (p := ⟨w.heap.size, 6, none⟩) (Nat.le_refl _) _).setCell (p := ⟨w.heap.size, 7, none⟩) (Nat.le_refl _) _)
        case measure =>
          have := HM.out
          have := HX.out
          simp [intOf]; omega
    · obtain rfl : t = n := by omega
      obtain ⟨m, hm⟩ : ∃ m, m = 64 * t := ⟨_, rfl⟩
      rw [← hm]
      have hm2 : (x.size : Int) ≤ (m : Int) := by have := HX.out; omega
      have hm3 : decide ((m : Int) < (x.size : Int)) = false := by simp; have := HX.out; omega
      obtain ⟨q, hq⟩ : ∃ q, q = pieces K s x.data.toList t := ⟨_, rfl⟩
      rw [← hq] at r0
      have C := r0.eight
      unfold Eight at C
      have HQ := Lib.hid hq
      have R1 := Lib.hid (show wr.heap[w.heap.size + 1]? = some (.cells (arr (List.replicate 8 0#32)) 94 (0, 0)) from r1)
      clear hm hq r0 r1
      go_wp2_with (first
        | (refine wpList_store_row rfl 94 (.tmp 4) (.tmp 20) rfl (w.heap.size + 1) (stV q) rfl rfl 94 (arr (List.replicate 8 0#32)) R1.out infoS8 rfl (stV_one _) ?_))
      have hg2 := setRow_heap wr (w.heap.size + 1) (arr (List.replicate 8 0#32)) (stV q) 94 (0, 0) R1.out
      refine bodyPost_ret (v := .agg (stV q)) (results_cell_row rfl _ _ (w.heap.size + 1) 94 (stV q) (0, 0) _ rfl hg2 Tryd.underlying94 rfl infoS8) rfl ⟨by rw [HQ.out], below_setRow hbel (by omega) _⟩
end Go.Proofs.YtjkapmghifglcaaDoor.Hk
