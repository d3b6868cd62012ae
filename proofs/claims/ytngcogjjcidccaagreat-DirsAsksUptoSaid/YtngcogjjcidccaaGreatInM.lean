/- Plain mathematics of inodes and keys as bytes: what is written is taken again; two ways of asking whether bytes are one's are the same. No walk here. -/
import Derived.Test.YtngcogjjcidccaaGreatMathC
import Derived.Test.YtngcogjjcidccaaGreatPhM
namespace Go.Proofs.YtngcogjjcidccaaGreat.Ino
set_option linter.unusedVariables false
set_option linter.unusedSimpArgs false
open Pk (be num be_length num_be num_lt num_snoc bs bs_size nB nE numOk numOk_iff tN tR tE uN uOk uT uR uE xB xE nB_ok tN_back tR_back uT_back uR_back uE_back xB_size be_cons)
theorem be_num (l : List UInt8) : be l.length (num l) = l := by
  have key : ∀ r : List UInt8, be r.reverse.length (num r.reverse) = r.reverse := by
    intro r
    induction r with
    | nil => rfl
    | cons b r ih =>
      rw [List.reverse_cons, num_snoc, List.length_append, List.length_singleton, be]
      have hb := b.toNat_lt
      rw [show (num r.reverse * 256 + b.toNat) / 256 = num r.reverse by omega, ih]
      congr 2
      apply UInt8.toNat_inj.1
      rw [UInt8.toNat_ofNat']
      omega
  have := key l.reverse
  rwa [List.reverse_reverse] at this
theorem numOk_of {n k : Nat} (h1 : 1 ≤ k) (h2 : k ≤ 8) (h : n < 256 ^ k) : numOk n (k : Int) = true := numOk_iff.2 ⟨by omega, by omega, by simpa using h⟩
theorem nB_of {n k : Nat} (h1 : 1 ≤ k) (h2 : k ≤ 8) (h : n < 256 ^ k) : nB n (k : Int) = bs (be k n) := by rw [nB_ok (numOk_of h1 h2 h)]; simp
theorem tR_of (s : ByteArray) (k : Nat) (h1 : 1 ≤ k) (h2 : k ≤ 8) (h : k ≤ s.size) : tR s (k : Int) = s.extract k s.size := by
  unfold tR
  rw [if_pos ⟨by omega, by omega, by simpa using h⟩]; simp
theorem tN_of (s : ByteArray) (k : Nat) (h1 : 1 ≤ k) (h2 : k ≤ 8) (h : k ≤ s.size) : tN s (k : Int) = (num (s.data.toList.take k) : Nat) := by
  unfold tN
  rw [if_pos ⟨by omega, by omega, by simpa using h⟩]; simp
theorem tN_lt (s : ByteArray) (k : Nat) (h2 : k ≤ 8) : 0 ≤ tN s (k : Int) ∧ tN s (k : Int) < (256 ^ k : Nat) := by
  unfold tN
  split
  · have h := num_lt (s.data.toList.take k)
    have h3 : 256 ^ (s.data.toList.take k).length ≤ 256 ^ k := Nat.pow_le_pow_right (by omega) (by rw [List.length_take]; omega)
    refine ⟨by omega, ?_⟩
    have e : ((k : Int)).toNat = k := by simp
    rw [e]
    omega
  · have : 0 < 256 ^ k := Nat.pow_pos (by omega)
    omega
/-- bytes are the number's that they begin with, and what is behind -/
theorem whole_cut (s : ByteArray) (k : Nat) (h1 : 1 ≤ k) (h2 : k ≤ 8) (h : k ≤ s.size) : bs (be k (tN s (k : Int)).toNat) ++ tR s (k : Int) = s := by
  rw [tN_of s k h1 h2 h, tR_of s k h1 h2 h, Int.toNat_natCast]
  have e : (s.data.toList.take k).length = k := by rw [List.length_take, Array.length_toList, show s.data.size = s.size from rfl]; omega
  have e2 := be_num (s.data.toList.take k)
  rw [e] at e2
  rw [e2]
  apply ByteArray.ext
  rw [ByteArray.data_append, ByteArray.data_extract]
  apply Array.toList_inj.1
  rw [Array.toList_append]
  show List.take k s.data.toList ++ _ = _
  rw [Array.toList_extract, List.extract_eq_take_drop, List.take_of_length_le (i := s.size - k) (by rw [List.length_drop, Array.length_toList]; exact Nat.le_refl _), List.take_append_drop]
theorem tR_size (s : ByteArray) (k : Nat) (h1 : 1 ≤ k) (h2 : k ≤ 8) (h : k ≤ s.size) : (tR s (k : Int)).size = s.size - k := by
  rw [tR_of s k h1 h2 h, ByteArray.size_extract]; omega
theorem tR_le (s : ByteArray) (k : Int) : (tR s k).size ≤ s.size := by
  unfold tR
  split
  · rw [ByteArray.size_extract]; omega
  · exact Nat.zero_le _
theorem tR_short (s : ByteArray) (k : Nat) (h : s.size < k) : tR s (k : Int) = ByteArray.empty ∧ tN s (k : Int) = 0 := by
  unfold tR tN
  have : ¬ (1 ≤ (k : Int) ∧ (k : Int) ≤ 8 ∧ (k : Int).toNat ≤ s.size) := by rintro ⟨_, _, h3⟩; simp at h3; omega
  rw [if_neg this, if_neg this]
  exact ⟨rfl, rfl⟩
theorem whole_text {s : ByteArray} (h1 : uE s = 0) (h2 : uR s = ByteArray.empty) : xB (uT s) = s ∧ (uT s).size ≤ 65535 := by
  have hk : uOk s = true := by
    cases h : uOk s with
    | true => rfl
    | false => unfold uE at h1; rw [if_neg (by rw [h]; decide)] at h1; exact absurd h1 (by decide)
  have hk2 := hk
  unfold uOk at hk2
  rw [decide_eq_true_eq] at hk2
  unfold uR at h2
  rw [if_pos hk] at h2
  have h3 := congrArg ByteArray.size h2
  rw [ByteArray.size_extract, ByteArray.size_extract] at h3
  change _ = 0 at h3
  have hN : uN s = s.size - 2 := by omega
  have hT : uT s = s.extract 2 s.size := by
    unfold uT
    rw [if_pos hk, hN, ByteArray.extract_extract]
    congr 1
    omega
  have hsz : (uT s).size = uN s := by rw [hT, ByteArray.size_extract, hN]; omega
  have hlt := num_lt (s.data.toList.take 2)
  have hl2 : (s.data.toList.take 2).length = 2 := by rw [List.length_take, Array.length_toList, show s.data.size = s.size from rfl]; omega
  rw [hl2] at hlt
  have hle : (uT s).size ≤ 65535 := by rw [hsz]; unfold uN; omega
  refine ⟨?_, hle⟩
  rw [xB, if_pos hle, hsz]
  have e2 := be_num (s.data.toList.take 2)
  rw [hl2] at e2
  unfold uN
  rw [e2, hT]
  apply ByteArray.ext
  rw [ByteArray.data_append, ByteArray.data_extract]
  apply Array.toList_inj.1
  rw [Array.toList_append]
  show List.take 2 s.data.toList ++ _ = _
  rw [Array.toList_extract, List.extract_eq_take_drop, List.take_of_length_le (i := s.size - 2) (by rw [List.length_drop, Array.length_toList]; exact Nat.le_refl _), List.take_append_drop]
/-- an inode, as plain data -/
structure In where
  K : Nat
  M : Nat
  L : Nat
  S : Nat
  T : ByteArray
def In.lim (n : In) : Prop := n.K < 256 ∧ n.M < 65536 ∧ n.L < 4294967296 ∧ n.S < 4294967296
def zIn : In := ⟨0, 0, 0, 0, ByteArray.empty⟩
def tgt (t : ByteArray) : Bool := decide (1 ≤ t.size) && decide (t.size ≤ 64) && !t.data.toList.contains 0
def okI (n : In) : Bool :=
  if n.K = 1 then decide (n.L = 1) && decide (n.S = 0) && decide (n.T.size = 0)
  else if n.K = 2 then decide (1 ≤ n.L) && decide (n.S ≤ 65536) && decide (n.T.size = 0)
  else if n.K = 3 then decide (1 ≤ n.L) && tgt n.T && decide (n.S = n.T.size) else false
theorem okI_iff {n : In} : okI n = true ↔ (n.K = 1 ∧ n.L = 1 ∧ n.S = 0 ∧ n.T.size = 0) ∨ (n.K = 2 ∧ 1 ≤ n.L ∧ n.S ≤ 65536 ∧ n.T.size = 0) ∨ (n.K = 3 ∧ 1 ≤ n.L ∧ tgt n.T = true ∧ n.S = n.T.size) := by
  unfold okI
  by_cases h1 : n.K = 1
  · rw [if_pos h1]
    simp only [Bool.and_eq_true, decide_eq_true_eq]
    omega
  · rw [if_neg h1]
    by_cases h2 : n.K = 2
    · rw [if_pos h2]
      simp only [Bool.and_eq_true, decide_eq_true_eq]
      omega
    · rw [if_neg h2]
      by_cases h3 : n.K = 3
      · rw [if_pos h3]
        simp only [Bool.and_eq_true, decide_eq_true_eq]
        simp [h1, h2, h3, and_assoc]
      · rw [if_neg h3]
        simp [h1, h2, h3]
theorem tgt_size {t : ByteArray} (h : tgt t = true) : 1 ≤ t.size ∧ t.size ≤ 64 := by
  unfold tgt at h
  simp only [Bool.and_eq_true, decide_eq_true_eq] at h
  exact h.1
theorem okI_size {n : In} (h : okI n = true) : n.T.size ≤ 64 ∧ n.K < 4 := by
  rcases okI_iff.1 h with h | h | h
  · omega
  · omega
  · have := tgt_size h.2.2.1; omega
def wrI (n : In) : ByteArray := bs (be 1 n.K) ++ bs (be 2 n.M) ++ bs (be 4 n.L) ++ bs (be 4 n.S) ++ xB n.T
def tkI (s : ByteArray) : In := ⟨(tN s 1).toNat, (tN (tR s 1) 2).toNat, (tN (tR (tR s 1) 2) 4).toNat, (tN (tR (tR (tR s 1) 2) 4) 4).toNat, uT (tR (tR (tR (tR s 1) 2) 4) 4)⟩
theorem tN1 (s : ByteArray) : 0 ≤ tN s 1 ∧ tN s 1 < 256 := tN_lt s 1 (by omega)
theorem tN2 (s : ByteArray) : 0 ≤ tN s 2 ∧ tN s 2 < 65536 := tN_lt s 2 (by omega)
theorem tN4 (s : ByteArray) : 0 ≤ tN s 4 ∧ tN s 4 < 4294967296 := tN_lt s 4 (by omega)
theorem tkI_lim (s : ByteArray) : (tkI s).lim := by
  have h1 := tN1 s
  have h2 := tN2 (tR s 1)
  have h3 := tN4 (tR (tR s 1) 2)
  have h4 := tN4 (tR (tR (tR s 1) 2) 4)
  refine ⟨?_, ?_, ?_, ?_⟩ <;> simp only [tkI] <;> omega
theorem wrI_eq (n : In) : wrI n = bs (be 1 n.K) ++ (bs (be 2 n.M) ++ (bs (be 4 n.L) ++ (bs (be 4 n.S) ++ xB n.T))) := by
  unfold wrI
  simp only [ByteArray.append_assoc]
theorem num_back (k n : Nat) (h1 : 1 ≤ k) (h2 : k ≤ 8) (h : n < 256 ^ k) (r : ByteArray) : tN (bs (be k n) ++ r) (k : Int) = n ∧ tR (bs (be k n) ++ r) (k : Int) = r := by
  have h3 := tN_back (numOk_of h1 h2 h) r
  have h4 := tR_back (numOk_of h1 h2 h) r
  rw [nB_of h1 h2 h] at h3 h4
  exact ⟨h3, h4⟩
theorem rest_back {n : In} (h : n.lim) : tR (wrI n) 1 = bs (be 2 n.M) ++ (bs (be 4 n.L) ++ (bs (be 4 n.S) ++ xB n.T)) ∧ tR (tR (wrI n) 1) 2 = bs (be 4 n.L) ++ (bs (be 4 n.S) ++ xB n.T) ∧ tR (tR (tR (wrI n) 1) 2) 4 = bs (be 4 n.S) ++ xB n.T ∧ tR (tR (tR (tR (wrI n) 1) 2) 4) 4 = xB n.T := by
  obtain ⟨l1, l2, l3, l4⟩ := h
  have a1 : tR (wrI n) 1 = bs (be 2 n.M) ++ (bs (be 4 n.L) ++ (bs (be 4 n.S) ++ xB n.T)) := by rw [wrI_eq]; exact (num_back 1 n.K (by omega) (by omega) (by simpa using l1) _).2
  have a2 : tR (tR (wrI n) 1) 2 = bs (be 4 n.L) ++ (bs (be 4 n.S) ++ xB n.T) := by rw [a1]; exact (num_back 2 n.M (by omega) (by omega) (by simpa using l2) _).2
  have a3 : tR (tR (tR (wrI n) 1) 2) 4 = bs (be 4 n.S) ++ xB n.T := by rw [a2]; exact (num_back 4 n.L (by omega) (by omega) (by simpa using l3) _).2
  have a4 : tR (tR (tR (tR (wrI n) 1) 2) 4) 4 = xB n.T := by rw [a3]; exact (num_back 4 n.S (by omega) (by omega) (by simpa using l4) _).2
  exact ⟨a1, a2, a3, a4⟩
theorem append_none (a : ByteArray) : a ++ ByteArray.empty = a := by
  apply ByteArray.ext
  rw [ByteArray.data_append]
  exact Array.append_empty
theorem tk_wr {n : In} (h : n.lim) (ht : n.T.size ≤ 65535) : tkI (wrI n) = n := by
  obtain ⟨a1, a2, a3, a4⟩ := rest_back h
  obtain ⟨l1, l2, l3, l4⟩ := h
  have b1 : tN (wrI n) 1 = n.K := by rw [wrI_eq]; exact (num_back 1 n.K (by omega) (by omega) (by simpa using l1) _).1
  have b2 : tN (tR (wrI n) 1) 2 = n.M := by rw [a1]; exact (num_back 2 n.M (by omega) (by omega) (by simpa using l2) _).1
  have b3 : tN (tR (tR (wrI n) 1) 2) 4 = n.L := by rw [a2]; exact (num_back 4 n.L (by omega) (by omega) (by simpa using l3) _).1
  have b4 : tN (tR (tR (tR (wrI n) 1) 2) 4) 4 = n.S := by rw [a3]; exact (num_back 4 n.S (by omega) (by omega) (by simpa using l4) _).1
  have b5 : uT (tR (tR (tR (tR (wrI n) 1) 2) 4) 4) = n.T := by
    rw [a4]
    have := uT_back ht ByteArray.empty
    rwa [append_none] at this
  unfold tkI
  rw [b1, b2, b3, b4, b5]
  simp
/-- what bytes are, and which error -/
def deI (s : ByteArray) : In := if okI (tkI s) = true ∧ wrI (tkI s) = s then tkI s else zIn
def deIE (s : ByteArray) : Int := if okI (tkI s) = true ∧ wrI (tkI s) = s then 0 else 4
/-- how the document asks -/
theorem ask_same (s : ByteArray) : (okI (tkI s) = true ∧ wrI (tkI s) = s) ↔ (11 ≤ s.size ∧ uE (tR (tR (tR (tR s 1) 2) 4) 4) = 0 ∧ uR (tR (tR (tR (tR s 1) 2) 4) 4) = ByteArray.empty ∧ okI (tkI s) = true) := by
  constructor
  · rintro ⟨h1, h2⟩
    have hl := tkI_lim s
    have ht := (okI_size h1).1
    obtain ⟨_, _, _, a4⟩ := rest_back hl
    have hsz := congrArg ByteArray.size h2
    rw [wrI] at hsz
    simp only [ByteArray.size_append, bs_size, be_length] at hsz
    rw [h2] at a4
    have c1 := uE_back (t := (tkI s).T) (by omega) ByteArray.empty
    have c2 := uR_back (t := (tkI s).T) (by omega) ByteArray.empty
    rw [append_none] at c1 c2
    rw [a4]
    exact ⟨by omega, c1, c2, h1⟩
  · rintro ⟨h0, h1, h2, h3⟩
    refine ⟨h3, ?_⟩
    clear h3
    rw [wrI_eq]
    simp only [tkI]
    have e1 : bs (be 1 (tN s 1).toNat) ++ tR s 1 = s := whole_cut s 1 (by omega) (by omega) (by omega)
    have z1 : (tR s 1).size = s.size - 1 := tR_size s 1 (by omega) (by omega) (by omega)
    generalize tR s 1 = r1 at *
    have e2 : bs (be 2 (tN r1 2).toNat) ++ tR r1 2 = r1 := whole_cut r1 2 (by omega) (by omega) (by omega)
    have z2 : (tR r1 2).size = r1.size - 2 := tR_size r1 2 (by omega) (by omega) (by omega)
    generalize tR r1 2 = r2 at *
    have e3 : bs (be 4 (tN r2 4).toNat) ++ tR r2 4 = r2 := whole_cut r2 4 (by omega) (by omega) (by omega)
    have z3 : (tR r2 4).size = r2.size - 4 := tR_size r2 4 (by omega) (by omega) (by omega)
    generalize tR r2 4 = r3 at *
    have e4 : bs (be 4 (tN r3 4).toNat) ++ tR r3 4 = r3 := whole_cut r3 4 (by omega) (by omega) (by omega)
    generalize tR r3 4 = r4 at *
    have e5 := (whole_text h1 h2).1
    rw [e5, e4, e3, e2, e1]
theorem deI_back {n : In} (h : n.lim) (hk : okI n = true) : deI (wrI n) = n ∧ deIE (wrI n) = 0 := by
  have e := tk_wr h (by have := (okI_size hk).1; omega)
  unfold deI deIE
  rw [e, if_pos ⟨hk, rfl⟩, if_pos ⟨hk, rfl⟩]
  exact ⟨rfl, rfl⟩
theorem deI_ok {s : ByteArray} (h : deIE s = 0) : okI (deI s) = true ∧ wrI (deI s) = s ∧ (deI s).lim := by
  unfold deIE at h
  unfold deI
  by_cases hc : okI (tkI s) = true ∧ wrI (tkI s) = s
  · rw [if_pos hc]
    exact ⟨hc.1, hc.2, tkI_lim s⟩
  · rw [if_neg hc] at h; exact absurd h (by decide)
theorem wrI_size (n : In) (h : n.T.size ≤ 65535) : (wrI n).size = 13 + n.T.size := by
  unfold wrI
  simp only [ByteArray.size_append, bs_size, be_length, xB_size h]; omega
end Go.Proofs.YtngcogjjcidccaaGreat.Ino
