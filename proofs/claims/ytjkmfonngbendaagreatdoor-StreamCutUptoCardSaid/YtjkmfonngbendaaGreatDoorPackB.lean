/- Contracts of package pack's calls, each for every argument: what Number, TakeNumber, Text and TakeText answer. -/
import Derived.Test.YtjkmfonngbendaaGreatDoorPack
namespace Go.Proofs.YtjkmfonngbendaaGreatDoor.Pk
set_option linter.unusedVariables false
open Go.ChangeShapes Go.WideShapes Go.ChangeAt Go.RowKit
def bs (l : List UInt8) : ByteArray := ⟨l.toArray⟩
def numOk (n : Nat) (k : Int) : Bool := decide (1 ≤ k ∧ k ≤ 8 ∧ n < 256 ^ k.toNat)
def nB (n : Nat) (k : Int) : ByteArray := if numOk n k then bs (be k.toNat n) else ByteArray.empty
def nE (n : Nat) (k : Int) : Int := if numOk n k then 0 else 1
def tN (s : ByteArray) (k : Int) : Int := if 1 ≤ k ∧ k ≤ 8 ∧ k.toNat ≤ s.size then (num (s.data.toList.take k.toNat) : Nat) else 0
def tR (s : ByteArray) (k : Int) : ByteArray := if 1 ≤ k ∧ k ≤ 8 ∧ k.toNat ≤ s.size then s.extract k.toNat s.size else ByteArray.empty
def tE (s : ByteArray) (k : Int) : Int := if 1 ≤ k ∧ k ≤ 8 then (if k.toNat ≤ s.size then 0 else 3) else 1
theorem ret2 {k : IntKind} {a a' : ByteArray} {b b' : Int} (h1 : a = a') (h2 : b = b') : Ending.returned (.tuple #[.string a, .int k b]) = .returned (.tuple #[.string a', .int k b']) := by rw [h1, h2]
theorem ret3 {k k' : IntKind} {a a' : ByteArray} {b b' c c' : Int} (h0 : c = c') (h1 : a = a') (h2 : b = b') : Ending.returned (.tuple #[.int k' c, .string a, .int k b]) = .returned (.tuple #[.int k' c', .string a', .int k b']) := by rw [h0, h1, h2]
theorem below_drewN' (w : World) (q : Nat) : Below w.heap.size w (w.drewN q) := by
  exact ⟨rfl, rfl, rfl, Nat.le_refl _, fun _ _ => rfl⟩
theorem number_any (n : Nat) (k : Int) (w : World) (h0 : n < 18446744073709551616) :
    Calls Tryz.prog 15 #[.int .u64 n, .int .i64 k] w fun e w' => e = .returned (.tuple #[.string (nB n k), .int .i64 (nE n k)]) ∧ Below w.heap.size w w' := by
  by_cases hk : 1 ≤ k ∧ k ≤ 8
  · obtain ⟨m, rfl⟩ : ∃ m : Nat, k = m := ⟨k.toNat, by omega⟩
    by_cases hn : n < 256 ^ m
    · have e : numOk n m = true := by unfold numOk; simp only [decide_eq_true_eq, Int.toNat_natCast]; exact ⟨hk.1, hk.2, hn⟩
      refine (number_yes n m w h0 (by omega) (by omega) (by rw [pow_256]; exact hn)).mono fun e w' ⟨he, hw⟩ => ⟨he.trans (ret2 ?_ ?_), hw⟩
      · rw [nB, if_pos ‹_›, Int.toNat_natCast]; rfl
      · rw [nE, if_pos ‹_›]
    · have e : ¬ numOk n m = true := by unfold numOk; simp only [decide_eq_true_eq, Int.toNat_natCast]; exact fun h => hn h.2.2
      refine (number_big n m w h0 (by omega) (by omega) hn).mono fun e w' ⟨he, hw⟩ => ⟨he.trans (ret2 ?_ ?_), hw ▸ Below.refl _ _⟩
      · rw [nB, if_neg ‹_›]
      · rw [nE, if_neg ‹_›]
  · have e : ¬ numOk n k = true := by unfold numOk; simp only [decide_eq_true_eq]; exact fun h => hk ⟨h.1, h.2.1⟩
    refine (number_range n k w hk).mono fun e w' ⟨he, hw⟩ => ⟨he.trans (ret2 ?_ ?_), hw ▸ Below.refl _ _⟩
    · rw [nB, if_neg ‹_›]
    · rw [nE, if_neg ‹_›]
theorem take_any (s : ByteArray) (k : Int) (w : World) (h4 : s.size ≤ maxLen) :
    Calls Tryz.prog 150 #[.string s, .int .i64 k] w fun e w' => e = .returned (.tuple #[.int .u64 (tN s k), .string (tR s k), .int .i64 (tE s k)]) ∧ Below w.heap.size w w' := by
  by_cases hk : 1 ≤ k ∧ k ≤ 8
  · obtain ⟨m, rfl⟩ : ∃ m : Nat, k = m := ⟨k.toNat, by omega⟩
    by_cases hn : m ≤ s.size
    · have hc : 1 ≤ (m : Int) ∧ (m : Int) ≤ 8 ∧ (m : Int).toNat ≤ s.size := ⟨hk.1, hk.2, by simpa using hn⟩
      refine (take_yes s m w (by omega) (by omega) hn h4).mono fun e w' ⟨he, q, hw⟩ => ⟨he.trans (ret3 ?_ ?_ ?_), hw ▸ below_drewN' _ _⟩
      · rw [tN, if_pos hc, Int.toNat_natCast]
      · rw [tR, if_pos hc, Int.toNat_natCast]
      · rw [tE, if_pos hk, if_pos hc.2.2]
    · have hc : ¬ (1 ≤ (m : Int) ∧ (m : Int) ≤ 8 ∧ (m : Int).toNat ≤ s.size) := fun h => hn (by simpa using h.2.2)
      refine (take_more s m w (by omega) (by omega) (by omega)).mono fun e w' ⟨he, hw⟩ => ⟨he.trans (ret3 ?_ ?_ ?_), hw ▸ Below.refl _ _⟩
      · rw [tN, if_neg hc]
      · rw [tR, if_neg hc]
      · rw [tE, if_pos hk, if_neg (by simpa using hn)]
  · have hc : ¬ (1 ≤ k ∧ k ≤ 8 ∧ k.toNat ≤ s.size) := fun h => hk ⟨h.1, h.2.1⟩
    refine (take_range s k w hk).mono fun e w' ⟨he, hw⟩ => ⟨he.trans (ret3 ?_ ?_ ?_), hw ▸ Below.refl _ _⟩
    · rw [tN, if_neg hc]
    · rw [tR, if_neg hc]
    · rw [tE, if_neg hk]
theorem text_yes (t : ByteArray) (w : World) (h : t.size ≤ 65535) :
    Calls Tryz.prog 78 #[.string t] w fun e w' => e = .returned (.tuple #[.string (bs (be 2 t.size) ++ t), .int .i64 0]) ∧ Below w.heap.size w w' := by
  have hok : numOk t.size 2 = true := by unfold numOk; rw [decide_eq_true_eq]; exact ⟨by omega, by omega, by show t.size < 65536; omega⟩
  have e1 : nB t.size 2 = bs (be 2 t.size) := by rw [nB, if_pos hok]; rfl
  have e2 : nE t.size 2 = 0 := by rw [nE, if_pos hok]
  have hc := (number_any t.size 2 w (by omega))
  rw [e1, e2] at hc
  have hs : (bs (be 2 t.size)).size = 2 := by show (be 2 t.size).toArray.size = 2; rw [List.size_toArray, be_length]
  have hz : (bs (be 2 t.size)).size ≤ 2 := by omega
  clear e1 e2 hok hs
  go_enter Tryz.func78, Tryz.ntmps78
  go_wp2_with (first
    | (go_at_call 15; refine hc.mono ?_; rintro e w' ⟨rfl, hbel⟩))
  go_ret2
  exact ⟨rfl, hbel⟩
theorem text_long (t : ByteArray) (w : World) (h : 65535 < t.size) :
    Calls Tryz.prog 78 #[.string t] w fun e w' => e = .returned (.tuple #[.string ByteArray.empty, .int .i64 2]) ∧ w = w' := by
  go_enter Tryz.func78, Tryz.ntmps78
  go_wp2
  go_ret2
  exact ⟨rfl, rfl⟩
def uN (s : ByteArray) : Nat := num (s.data.toList.take 2)
def uOk (s : ByteArray) : Bool := decide (2 ≤ s.size ∧ uN s ≤ s.size - 2)
def uT (s : ByteArray) : ByteArray := if uOk s then (s.extract 2 s.size).extract 0 (uN s) else ByteArray.empty
def uR (s : ByteArray) : ByteArray := if uOk s then (s.extract 2 s.size).extract (uN s) (s.size - 2) else ByteArray.empty
def uE (s : ByteArray) : Int := if uOk s then 0 else 3
def xB (t : ByteArray) : ByteArray := if t.size ≤ 65535 then bs (be 2 t.size) ++ t else ByteArray.empty
def xE (t : ByteArray) : Int := if t.size ≤ 65535 then 0 else 2
theorem ret3s {k : IntKind} {a a' : ByteArray} {b b' : Int} {c c' : ByteArray} (h0 : c = c') (h1 : a = a') (h2 : b = b') : Ending.returned (.tuple #[.string c, .string a, .int k b]) = .returned (.tuple #[.string c', .string a', .int k b']) := by rw [h0, h1, h2]
theorem text_any (t : ByteArray) (w : World) :
    Calls Tryz.prog 78 #[.string t] w fun e w' => e = .returned (.tuple #[.string (xB t), .int .i64 (xE t)]) ∧ Below w.heap.size w w' := by
  by_cases h : t.size ≤ 65535
  · refine (text_yes t w h).mono fun e w' ⟨he, hw⟩ => ⟨he.trans (ret2 ?_ ?_), hw⟩
    · rw [xB, if_pos h]
    · rw [xE, if_pos h]
  · refine (text_long t w (by omega)).mono fun e w' ⟨he, hw⟩ => ⟨he.trans (ret2 ?_ ?_), hw ▸ Below.refl _ _⟩
    · rw [xB, if_neg h]
    · rw [xE, if_neg h]
theorem taketext_any (s : ByteArray) (w : World) (h4 : s.size ≤ maxLen) :
    Calls Tryz.prog 189 #[.string s] w fun e w' => e = .returned (.tuple #[.string (uT s), .string (uR s), .int .i64 (uE s)]) ∧ Below w.heap.size w w' := by
  by_cases h2 : 2 ≤ s.size
  · have hc := take_yes s 2 w (by omega) (by omega) h2 h4
    unfold maxLen at h4
    obtain ⟨n, hn⟩ : ∃ n, n = uN s := ⟨_, rfl⟩
    rw [show num (s.data.toList.take 2) = n from hn.symm] at hc
    have HN := Lib.hid hn
    clear hn
    by_cases h3 : n ≤ s.size - 2
    · have hd : decide (s.size - 2 < n) = false := by simp; omega
      go_enter Tryz.func189, Tryz.ntmps189
      go_wp2_with (first
        | (go_at_call 150; refine hc.mono ?_; rintro e w' ⟨rfl, q, rfl⟩))
      go_quiet (fail)
      go_wp2
      go_ret3
      have hok : uOk s = true := by unfold uOk; rw [decide_eq_true_eq, ← HN.out]; exact ⟨h2, h3⟩
      refine ⟨ret3s ?_ ?_ ?_, ⟨rfl, rfl, rfl, Nat.le_refl _, fun _ _ => rfl⟩⟩
      · rw [uT, if_pos hok, ← HN.out]
      · rw [uR, if_pos hok, ← HN.out]
      · rw [uE, if_pos hok]
    · have hd : s.size - 2 < n := by omega
      go_enter Tryz.func189, Tryz.ntmps189
      go_wp2_with (first
        | (go_at_call 150; refine hc.mono ?_; rintro e w' ⟨rfl, q, rfl⟩))
      go_ret3
      have hok : ¬ uOk s = true := by unfold uOk; rw [decide_eq_true_eq, ← HN.out]; exact fun h => h3 h.2
      refine ⟨ret3s ?_ ?_ ?_, below_drewN' w q⟩
      · rw [uT, if_neg hok]; rfl
      · rw [uR, if_neg hok]; rfl
      · rw [uE, if_neg hok]
  · have hc := take_more s 2 w (by omega) (by omega) (by omega)
    have hok : ¬ uOk s = true := by unfold uOk; rw [decide_eq_true_eq]; exact fun h => h2 h.1
    have HO := Lib.hid hok
    clear hok
    go_enter Tryz.func189, Tryz.ntmps189
    go_wp2_with (first
      | (go_at_call 150; refine hc.mono ?_; rintro e w' ⟨rfl, rfl⟩))
    go_ret3
    refine ⟨ret3s ?_ ?_ ?_, Below.refl _ _⟩
    · rw [uT, if_neg HO.out]; rfl
    · rw [uR, if_neg HO.out]; rfl
    · rw [uE, if_neg HO.out]
end Go.Proofs.YtjkmfonngbendaaGreatDoor.Pk
