/- Plain mathematics on bytes and digits: the digits of bytes, the bytes of digits, there and back; their order. No word of the program here. -/
import Derived.Test.YtglciacjfoimlaaDoorMath
import Derived.WalkKit
namespace Go.Proofs.YtglciacjfoimlaaDoor.Hc
def hd (n : Nat) : UInt8 := UInt8.ofNat (if n < 10 then 48 + n else 87 + n)
def hexL : List UInt8 → List UInt8
  | [] => []
  | b :: l => hd (b.toNat / 16) :: hd (b.toNat % 16) :: hexL l
theorem hexL_append (a b : List UInt8) : hexL (a ++ b) = hexL a ++ hexL b := by
  induction a with
  | nil => rfl
  | cons x a ih => simp [hexL, ih]
theorem hexL_length (l : List UInt8) : (hexL l).length = 2 * l.length := by
  induction l with
  | nil => rfl
  | cons x a ih => simp only [hexL, List.length_cons, ih]; omega
def dOk (n : Nat) : Bool := decide ((48 ≤ n ∧ n ≤ 57) ∨ (97 ≤ n ∧ n ≤ 102))
def dV (n : Nat) : Nat := if 48 ≤ n ∧ n ≤ 57 then n - 48 else if 97 ≤ n ∧ n ≤ 102 then n - 87 else 0
theorem hd_nat (n : Nat) (h : n < 16) : (hd n).toNat = if n < 10 then 48 + n else 87 + n := by
  unfold hd
  rw [UInt8.toNat_ofNat']
  split <;> omega
theorem dOk_hd (n : Nat) (h : n < 16) : dOk (hd n).toNat = true := by
  rw [hd_nat n h]
  unfold dOk
  split <;> simp <;> omega
theorem dV_hd (n : Nat) (h : n < 16) : dV (hd n).toNat = n := by
  rw [hd_nat n h]
  unfold dV
  split <;> split <;> (try split) <;> omega
theorem dV_lt (n : Nat) : dV n < 16 := by
  unfold dV
  split
  · omega
  · split <;> omega
theorem hd_dV (b : UInt8) (h : dOk b.toNat = true) : hd (dV b.toNat) = b := by
  have hl := b.toNat_lt
  unfold dOk at h
  simp only [decide_eq_true_eq] at h
  apply UInt8.toNat.inj
  rw [hd_nat _ (dV_lt _)]
  rcases h with h | h
  · have e : dV b.toNat = b.toNat - 48 := by unfold dV; rw [if_pos h]
    rw [e, if_pos (by omega)]; omega
  · have e : dV b.toNat = b.toNat - 87 := by
      have h' : ¬ (48 ≤ b.toNat ∧ b.toNat ≤ 57) := by omega
      unfold dV; rw [if_neg h', if_pos h]
    rw [e, if_neg (by omega)]; omega
def parseL : List UInt8 → List UInt8
  | a :: b :: r => UInt8.ofNat (dV a.toNat * 16 + dV b.toNat) :: parseL r
  | _ => []
def allOk (l : List UInt8) : Bool := l.all fun b => dOk b.toNat
theorem allOk_hex (l : List UInt8) : allOk (hexL l) = true := by
  induction l with
  | nil => rfl
  | cons x a ih =>
    have := x.toNat_lt
    simp only [hexL, allOk, List.all_cons] at ih ⊢
    rw [dOk_hd _ (by omega), dOk_hd _ (by omega), ih]; rfl
theorem parse_hex (l : List UInt8) : parseL (hexL l) = l := by
  induction l with
  | nil => rfl
  | cons x a ih =>
    have := x.toNat_lt
    rw [hexL, parseL, ih, dV_hd _ (by omega), dV_hd _ (by omega)]
    congr 1
    apply UInt8.toNat.inj
    rw [UInt8.toNat_ofNat']
    omega
theorem hex_parse : ∀ (n : Nat) (s : List UInt8), s.length = 2 * n → allOk s = true → hexL (parseL s) = s
  | 0, s, h, _ => by have : s = [] := List.eq_nil_of_length_eq_zero (by omega); subst this; rfl
  | n + 1, [], h, _ => by simp at h
  | n + 1, [_], h, _ => by simp at h; omega
  | n + 1, a :: b :: r, h, hk => by
    simp only [allOk, List.all_cons, Bool.and_eq_true] at hk
    have ih := hex_parse n r (by simp at h; omega) hk.2.2
    have ha := dV_lt a.toNat
    have hb := dV_lt b.toNat
    rw [parseL, hexL, ih, UInt8.toNat_ofNat', Nat.mod_eq_of_lt (by omega), show (dV a.toNat * 16 + dV b.toNat) / 16 = dV a.toNat by omega, show (dV a.toNat * 16 + dV b.toNat) % 16 = dV b.toNat by omega, hd_dV a hk.1, hd_dV b hk.2.1]
theorem parse_length : ∀ (n : Nat) (s : List UInt8), s.length = 2 * n → (parseL s).length = n
  | 0, s, h => by have : s = [] := List.eq_nil_of_length_eq_zero (by omega); subst this; rfl
  | n + 1, [], h => by simp at h
  | n + 1, [_], h => by simp at h; omega
  | n + 1, a :: b :: r, h => by
    have ih := parse_length n r (by simp at h; omega)
    rw [parseL, List.length_cons, ih]
theorem parse_get : ∀ (s : List UInt8) (i : Nat) (a b : UInt8), s[2 * i]? = some a → s[2 * i + 1]? = some b → (parseL s)[i]? = some (UInt8.ofNat (dV a.toNat * 16 + dV b.toNat))
  | [], i, a, b, h, _ => by simp at h
  | [_], 0, a, b, _, h => by simp at h
  | [_], i + 1, a, b, h, _ => by simp [Nat.mul_add] at h
  | x :: y :: r, 0, a, b, h, h' => by simp at h h'; subst h h'; simp [parseL]
  | x :: y :: r, i + 1, a, b, h, h' => by
    rw [parseL, List.getElem?_cons_succ]
    exact parse_get r i a b (by simpa [Nat.mul_add] using h) (by rw [show 2 * (i + 1) + 1 = 2 * i + 1 + 1 + 1 by omega, List.getElem?_cons_succ, List.getElem?_cons_succ] at h'; exact h')
theorem hd_lt (m n : Nat) (hm : m < 16) (hn : n < 16) : ((hd m).toNat < (hd n).toNat) ↔ m < n := by
  rw [hd_nat m hm, hd_nat n hn]
  split <;> split <;> omega
theorem hd_inj (m n : Nat) (hm : m < 16) (hn : n < 16) : hd m = hd n ↔ m = n := by
  constructor
  · intro h
    have := congrArg (fun b => dV b.toNat) h
    simpa [dV_hd m hm, dV_hd n hn] using this
  · rintro rfl; rfl
end Go.Proofs.YtglciacjfoimlaaDoor.Hc
