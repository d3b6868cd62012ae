/- Plain mathematics of SHA-256 as it is walked: the words of a piece, the rounds, and lists of words in arrays. -/
import Derived.Test.YtjkmfonngbendaaGreatDoorWord
namespace Go.Proofs.YtjkmfonngbendaaGreatDoor.Hk
def byteW (b : UInt8) : BitVec 32 := BitVec.setWidth 32 b.toBitVec
theorem byteW_n (b : UInt8) : (b.toNat : Int) = vN (byteW b) := by
  have hb := b.toNat_lt
  unfold vN byteW
  rw [BitVec.toNat_setWidth]
  have h2 : b.toBitVec.toNat = b.toNat := rfl
  rw [h2, Nat.mod_eq_of_lt (by omega)]
theorem byteW_lt (b : UInt8) : vN (byteW b) < 256 := by
  rw [← byteW_n]; have := b.toNat_lt; omega
theorem byteW_24 (b : UInt8) : (b.toNat : Int) * (16777216 : Int) = vN (byteW b <<< 24) := by
  have h := byteW_lt b
  have h0 := vN_lo (byteW b)
  rw [byteW_n, ← vN_shl]
  omega
theorem byteW_16 (b : UInt8) : (b.toNat : Int) * (65536 : Int) = vN (byteW b <<< 16) := by
  have h := byteW_lt b
  have h0 := vN_lo (byteW b)
  rw [byteW_n, ← vN_shl]
  omega
theorem byteW_8 (b : UInt8) : (b.toNat : Int) * (256 : Int) = vN (byteW b <<< 8) := by
  have h := byteW_lt b
  have h0 := vN_lo (byteW b)
  rw [byteW_n, ← vN_shl]
  omega
theorem wrap_b (b : UInt8) : IntKind.u32.wrap (b.toNat : Int) = (b.toNat : Int) := by rw [byteW_n]; have := byteW_lt b; have := vN_lo (byteW b); rw [IntKind.wrap_u32']; omega
theorem wrap_b8 (b : UInt8) : IntKind.u32.wrap ((b.toNat : Int) * (256 : Int)) = (b.toNat : Int) * (256 : Int) := by rw [byteW_n]; have := byteW_lt b; have := vN_lo (byteW b); rw [IntKind.wrap_u32']; omega
theorem wrap_b16 (b : UInt8) : IntKind.u32.wrap ((b.toNat : Int) * (65536 : Int)) = (b.toNat : Int) * (65536 : Int) := by rw [byteW_n]; have := byteW_lt b; have := vN_lo (byteW b); rw [IntKind.wrap_u32']; omega
theorem wrap_b24 (b : UInt8) : IntKind.u32.wrap ((b.toNat : Int) * (16777216 : Int)) = (b.toNat : Int) * (16777216 : Int) := by rw [byteW_n]; have := byteW_lt b; have := vN_lo (byteW b); rw [IntKind.wrap_u32']; omega
def word4 (a b c d : UInt8) : BitVec 32 := byteW a <<< 24 ||| byteW b <<< 16 ||| byteW c <<< 8 ||| byteW d
theorem word4_n (a b c d : UInt8) : bits BinOp.or IntKind.u32 (bits BinOp.or IntKind.u32 (bits BinOp.or IntKind.u32 ((a.toNat : Int) * (16777216 : Int)) ((b.toNat : Int) * (65536 : Int))) ((c.toNat : Int) * (256 : Int))) (d.toNat : Int) = vN (word4 a b c d) := by
  rw [byteW_24, byteW_16, byteW_8, byteW_n d, vN_or, vN_or, vN_or, word4]
def wd (s : List UInt8) (t : Nat) : BitVec 32 := word4 (s.getD (4 * t) 0) (s.getD (4 * t + 1) 0) (s.getD (4 * t + 2) 0) (s.getD (4 * t + 3) 0)
def nxt (f : Nat → BitVec 32) (l : List (BitVec 32)) (t : Nat) : BitVec 32 := if t < 16 then f t else sp1 (l.getD (t - 2) 0) + l.getD (t - 7) 0 + sp0 (l.getD (t - 15) 0) + l.getD (t - 16) 0
def wl (f : Nat → BitVec 32) : Nat → List (BitVec 32)
  | 0 => []
  | t + 1 => wl f t ++ [nxt f (wl f t) t]
theorem wl_length (f : Nat → BitVec 32) (t : Nat) : (wl f t).length = t := by
  induction t with
  | zero => rfl
  | succ t ih => rw [wl, List.length_append, ih]; rfl
/-- the words so far, zeros behind them -/
def wf (f : Nat → BitVec 32) (n t : Nat) : List (BitVec 32) := wl f t ++ List.replicate (n - t) 0
theorem wf_length (f : Nat → BitVec 32) (n t : Nat) (h : t ≤ n) : (wf f n t).length = n := by rw [wf, List.length_append, wl_length, List.length_replicate]; omega
theorem wf_all (f : Nat → BitVec 32) (n : Nat) : wf f n n = wl f n := by rw [wf, Nat.sub_self]; exact List.append_nil _
theorem wf_set (f : Nat → BitVec 32) (n t : Nat) (h : t < n) : (wf f n t).set t (nxt f (wl f t) t) = wf f n (t + 1) := by
  unfold wf
  have hl := wl_length f t
  rw [List.set_append_right _ _ (by omega), hl, Nat.sub_self, show n - t = (n - (t + 1)) + 1 by omega, List.replicate_succ, List.set_cons_zero, wl, List.append_assoc]
  rfl
theorem wf_getD (f : Nat → BitVec 32) (n t j : Nat) (h : j < t) : (wf f n t)[j]? = some ((wl f t).getD j 0) := by
  have hl := wl_length f t
  unfold wf
  rw [List.getElem?_append_left (by omega), List.getD_eq_getElem?_getD, List.getElem?_eq_getElem (by omega)]
  rfl
/-- words as the cells of an array -/
def arr (l : List (BitVec 32)) : Array Value := (l.map fun x => Value.int .u32 (vN x)).toArray
theorem arr_size (l : List (BitVec 32)) : (arr l).size = l.length := by simp [arr]
theorem arr_get (l : List (BitVec 32)) (j : Nat) (x : BitVec 32) (h : l[j]? = some x) : (arr l)[j]? = some (.int .u32 (vN x)) := by simp [arr, h]
theorem arr_set (l : List (BitVec 32)) (j : Nat) (x : BitVec 32) : (arr l).setIfInBounds j (.int .u32 (vN x)) = arr (l.set j x) := by
  unfold arr
  rw [List.map_set]
  simp
theorem arr_one (l : List (BitVec 32)) : (arr l).all (·.oneCell') = true := by
  rw [Array.all_eq_true_iff_forall_mem]
  intro v hv
  simp [arr] at hv
  obtain ⟨x, _, rfl⟩ := hv
  rfl
/-- the eight words of a state -/
structure St where
  a : BitVec 32
  b : BitVec 32
  c : BitVec 32
  d : BitVec 32
  e : BitVec 32
  f : BitVec 32
  g : BitVec 32
  h : BitVec 32
def St.list (s : St) : List (BitVec 32) := [s.a, s.b, s.c, s.d, s.e, s.f, s.g, s.h]
def St.round (s : St) (k w : BitVec 32) : St :=
  ⟨s.h + mx1 s.e + cho s.e s.f s.g + k + w + (mx0 s.a + maj s.a s.b s.c), s.a, s.b, s.c, s.d + (s.h + mx1 s.e + cho s.e s.f s.g + k + w), s.e, s.f, s.g⟩
def rounds8 (k w : List (BitVec 32)) (s : St) : Nat → St
  | 0 => s
  | t + 1 => (rounds8 k w s t).round (k.getD t 0) (w.getD t 0)
def St.plus (s t : St) : St := ⟨s.a + t.a, s.b + t.b, s.c + t.c, s.d + t.d, s.e + t.e, s.f + t.f, s.g + t.g, s.h + t.h⟩
/-- the state behind 64 bytes -/
def piece (k : List (BitVec 32)) (s : St) (p : List UInt8) : St := s.plus (rounds8 k (wl (wd p) 64) s 64)
def kc : List (BitVec 32) := [
  0x428a2f98#32, 0x71374491#32, 0xb5c0fbcf#32, 0xe9b5dba5#32, 0x3956c25b#32, 0x59f111f1#32, 0x923f82a4#32, 0xab1c5ed5#32,
  0xd807aa98#32, 0x12835b01#32, 0x243185be#32, 0x550c7dc3#32, 0x72be5d74#32, 0x80deb1fe#32, 0x9bdc06a7#32, 0xc19bf174#32,
  0xe49b69c1#32, 0xefbe4786#32, 0x0fc19dc6#32, 0x240ca1cc#32, 0x2de92c6f#32, 0x4a7484aa#32, 0x5cb0a9dc#32, 0x76f988da#32,
  0x983e5152#32, 0xa831c66d#32, 0xb00327c8#32, 0xbf597fc7#32, 0xc6e00bf3#32, 0xd5a79147#32, 0x06ca6351#32, 0x14292967#32,
  0x27b70a85#32, 0x2e1b2138#32, 0x4d2c6dfc#32, 0x53380d13#32, 0x650a7354#32, 0x766a0abb#32, 0x81c2c92e#32, 0x92722c85#32,
  0xa2bfe8a1#32, 0xa81a664b#32, 0xc24b8b70#32, 0xc76c51a3#32, 0xd192e819#32, 0xd6990624#32, 0xf40e3585#32, 0x106aa070#32,
  0x19a4c116#32, 0x1e376c08#32, 0x2748774c#32, 0x34b0bcb5#32, 0x391c0cb3#32, 0x4ed8aa4a#32, 0x5b9cca4f#32, 0x682e6ff3#32,
  0x748f82ee#32, 0x78a5636f#32, 0x84c87814#32, 0x8cc70208#32, 0x90befffa#32, 0xa4506ceb#32, 0xbef9a3f7#32, 0xc67178f2#32]
theorem kc_length : kc.length = 64 := rfl
end Go.Proofs.YtjkmfonngbendaaGreatDoor.Hk
