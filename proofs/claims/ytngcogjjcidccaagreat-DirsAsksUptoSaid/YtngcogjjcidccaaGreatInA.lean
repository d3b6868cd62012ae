/- Contracts of package inode: numbers, what a right inode is, what is told of it. -/
import Derived.Test.YtngcogjjcidccaaGreatOnc
import Derived.Test.YtngcogjjcidccaaGreatPaS
namespace Go.Proofs.YtngcogjjcidccaaGreat.Ino
set_option linter.unusedVariables false
set_option linter.unusedSimpArgs false
open Go.ChangeShapes Go.WideShapes Go.ChangeAt Go.RowKit
open Pk (be num be_length num_be num_lt bs bs_size nB nE tN tR tE uN uOk uT uR uE xB xE number_any take_any text_any taketext_any)
open Ph (has contains_any tl tl_len nb)
/-- an inode, a key, as values -/
def cI (n : In) : List Value := [.int .u8 n.K, .int .u16 n.M, .int .u32 n.L, .int .u32 n.S, .string n.T]
def vI (n : In) : Value := .agg #[.int .u8 n.K, .int .u16 n.M, .int .u32 n.L, .int .u32 n.S, .string n.T]
def vK (k : Ky) : Value := .agg #[.int .u8 k.K, .int .u32 k.I, .string k.N, .int .u32 k.C]
theorem number_in (n k : Nat) (w : World) (h0 : n < 18446744073709551616) (h1 : 1 ≤ k) (h2 : k ≤ 8) (h : n < 256 ^ k) :
    Calls Tryz.prog 65 #[.int .u64 n, .int .i64 k] w fun e w' => e = .returned (.string (bs (be k n))) ∧ Below w.heap.size w w' := by
  have HC := Lib.hid (number_any n k w h0)
  rw [nB_of h1 h2 h] at HC
  clear h
  go_enter Tryz.func65, Tryz.ntmps65
  go_wp2_with (go_at_call 81; refine HC.out.mono ?_; rintro e w' ⟨rfl, hb⟩)
  go_ret
  exact ⟨rfl, hb⟩
theorem takeNumber_in (s : ByteArray) (k : Int) (w : World) (hs : s.size ≤ maxLen) :
    Calls Tryz.prog 105 #[.string s, .int .i64 k] w fun e w' => e = .returned (.tuple #[.int .u64 (tN s k), .string (tR s k)]) ∧ Below w.heap.size w w' := by
  have HC := Lib.hid (take_any s k w hs)
  go_enter Tryz.func105, Tryz.ntmps105
  go_wp2_with (go_at_call 107; refine HC.out.mono ?_; rintro e w' ⟨rfl, hb⟩)
  go_ret2
  exact ⟨rfl, hb⟩
theorem emp_iff (s : ByteArray) : s.toList.isEmpty = decide (s.size = 0) := by
  rw [Bool.eq_iff_iff, List.isEmpty_iff, decide_eq_true_iff]
  exact ⟨fun h => by rw [← tl_len, h]; rfl, fun h => List.eq_nil_of_length_eq_zero (by rw [tl_len]; exact h)⟩
/-- the walk's own words for 'empty' -/
theorem emp_of {s : ByteArray} {q : Bool} (h : decide (s.size = 0) = q) : s.toList.isEmpty = q ∧ (!s.toList.isEmpty) = !q := by rw [emp_iff, h]; exact ⟨rfl, rfl⟩
theorem emp_yes {s : ByteArray} (h : s.size = 0) : s.toList = [] := List.eq_nil_of_length_eq_zero (by rw [tl_len]; exact h)
theorem emp_no {s : ByteArray} (h : ¬ s.size = 0) : ¬ s.toList = [] := fun e => h (by rw [← tl_len, e]; rfl)
theorem target_in (s : ByteArray) (w : World) :
    Calls Tryz.prog 82 #[.string s] w fun e w' => e = .returned (.bool (tgt s)) ∧ w = w' := by
  by_cases h1 : s.size = 0
  · have HQ := Lib.hid (show tgt s = false by unfold tgt; rw [decide_eq_false (by omega)]; rfl)
    obtain ⟨e1, e2⟩ := emp_of (decide_eq_true h1)
    have e3 := emp_yes h1
    clear h1
    go_enter Tryz.func82, Tryz.ntmps82
    go_wp2
    go_ret
    exact ⟨by rw [HQ.out]; rfl, rfl⟩
  · obtain ⟨e1, e2⟩ := emp_of (decide_eq_false h1)
    have e3 := emp_no h1
    by_cases h2 : s.size ≤ 64
    · have d : decide ((s.size : Int) ≤ 64) = true := by simp; omega
      have HC := Lib.hid (contains_any s 0)
      have hq : tgt s = !has s 0 := by unfold tgt; rw [decide_eq_true (by omega), decide_eq_true h2]; rfl
      cases hz : has s 0
      all_goals
        rw [hz] at hq HC
        have HQ := Lib.hid hq
        clear hq hz h1
        go_enter Tryz.func82, Tryz.ntmps82
        go_wp2_with (go_at_call 79; refine (HC.out _).mono ?_; rintro e w' ⟨rfl, rfl⟩)
        go_ret
        exact ⟨by rw [HQ.out]; rfl, rfl⟩
    · have d : decide ((s.size : Int) ≤ 64) = false := by simp; omega
      have HQ := Lib.hid (show tgt s = false by unfold tgt; rw [decide_eq_false h2]; simp)
      clear h1
      go_enter Tryz.func82, Tryz.ntmps82
      go_wp2
      go_ret
      exact ⟨by rw [HQ.out]; rfl, rfl⟩
theorem eqz {a b : Nat} {q : Bool} (h : decide (a = b) = q) : ((a : Int) == (b : Int)) = q := by
  rw [← h, Bool.eq_iff_iff, beq_iff_eq, decide_eq_true_iff]; omega
theorem eqz0 {a : Nat} {q : Bool} (h : decide (a = 0) = q) : ((a : Int) == 0) = q := eqz (b := 0) h
theorem eqz1 {a : Nat} {q : Bool} (h : decide (a = 1) = q) : ((a : Int) == 1) = q := eqz (b := 1) h
theorem eqz2 {a : Nat} {q : Bool} (h : decide (a = 2) = q) : ((a : Int) == 2) = q := eqz (b := 2) h
theorem eqz3 {a : Nat} {q : Bool} (h : decide (a = 3) = q) : ((a : Int) == 3) = q := eqz (b := 3) h
theorem eqz4 {a : Nat} {q : Bool} (h : decide (a = 4) = q) : ((a : Int) == 4) = q := eqz (b := 4) h
theorem lez {a b : Nat} {q : Bool} (h : decide (a ≤ b) = q) : decide ((a : Int) ≤ (b : Int)) = q := by
  rw [← h]; exact decide_eq_decide.2 (by omega)
theorem lez1 {a : Nat} {q : Bool} (h : decide (1 ≤ a) = q) : decide ((1 : Int) ≤ (a : Int)) = q := lez (a := 1) h
theorem lezM {a : Nat} {q : Bool} (h : decide (a ≤ 65536) = q) : decide ((a : Int) ≤ 65536) = q := lez (b := 65536) h
set_option maxRecDepth 100000 in
set_option maxHeartbeats 2000000 in
theorem right_in (n : In) (hl : n.lim) (w : World) :
    Calls Tryz.prog 66 #[vI n] w fun e w' => e = .returned (.bool (okI n)) ∧ Below w.heap.size w w' := by
  obtain ⟨K, M, L, S, T⟩ := n
  obtain ⟨l1, l2, l3, l4⟩ := hl
  dsimp only at l1 l2 l3 l4
  unfold vI
  dsimp only
  cases k1 : decide (K = 1)
  · have K1 := eqz1 k1
    have k1' := of_decide_eq_false k1
    cases k2 : decide (K = 2)
    · have K2 := eqz2 k2
      have k2' := of_decide_eq_false k2
      cases k3 : decide (K = 3)
      · have K3 := eqz3 k3
        have k3' := of_decide_eq_false k3
        have hq : okI ⟨K, M, L, S, T⟩ = false := by unfold okI; dsimp only; rw [if_neg k1', if_neg k2', if_neg k3']
        have HQ := Lib.hid (show okI ⟨K, M, L, S, T⟩ = false by rw [hq])
        clear hq k1 k2 k3 k1' k2' k3'
        go_enter Tryz.func66, Tryz.ntmps66
        go_wp2
        go_ret
        exact ⟨by rw [HQ.out]; rfl, (Below.refl _ _).alloc (Nat.le_refl _) _⟩
      · have K3 := eqz3 k3
        have k3' := of_decide_eq_true k3
        have hq : okI ⟨K, M, L, S, T⟩ = (decide (1 ≤ L) && tgt T && decide (S = T.size)) := by unfold okI; dsimp only; rw [if_neg k1', if_neg k2', if_pos k3']
        clear k1 k2 k3 k1' k2' k3'
        have HC := Lib.hid (target_in T)
        cases a1 : decide (1 ≤ L)
        · have A1 := lez1 a1
          rw [a1] at hq
          have HQ := Lib.hid (show okI ⟨K, M, L, S, T⟩ = false by rw [hq]; rfl)
          clear hq a1
          go_enter Tryz.func66, Tryz.ntmps66
          go_wp2
          go_ret
          exact ⟨by rw [HQ.out]; rfl, (Below.refl _ _).alloc (Nat.le_refl _) _⟩
        · have A1 := lez1 a1
          rw [a1] at hq
          cases a2 : tgt T
          · rw [a2] at hq HC
            have HQ := Lib.hid (show okI ⟨K, M, L, S, T⟩ = false by rw [hq]; rfl)
            clear hq a1 a2
            go_enter Tryz.func66, Tryz.ntmps66
            go_wp2_with (go_at_call 82; refine (HC.out _).mono ?_; rintro e w' ⟨rfl, rfl⟩)
            go_ret
            exact ⟨by rw [HQ.out]; rfl, (Below.refl _ _).alloc (Nat.le_refl _) _⟩
          · rw [a2] at hq HC
            have hT := (tgt_size a2).2
            cases a3 : decide (S = T.size)
            · have A3 := eqz a3
              rw [a3] at hq
              have HQ := Lib.hid (show okI ⟨K, M, L, S, T⟩ = false by rw [hq]; rfl)
              clear hq a1 a2 a3
              go_enter Tryz.func66, Tryz.ntmps66
              go_wp2_with (go_at_call 82; refine (HC.out _).mono ?_; rintro e w' ⟨rfl, rfl⟩)
              go_ret
              exact ⟨by rw [HQ.out]; rfl, (Below.refl _ _).alloc (Nat.le_refl _) _⟩
            · have A3 := eqz a3
              rw [a3] at hq
              have HQ := Lib.hid (show okI ⟨K, M, L, S, T⟩ = true by rw [hq]; rfl)
              clear hq a1 a2 a3
              go_enter Tryz.func66, Tryz.ntmps66
              go_wp2_with (go_at_call 82; refine (HC.out _).mono ?_; rintro e w' ⟨rfl, rfl⟩)
              go_ret
              exact ⟨by rw [HQ.out]; rfl, (Below.refl _ _).alloc (Nat.le_refl _) _⟩
    · have K2 := eqz2 k2
      have k2' := of_decide_eq_true k2
      have hq : okI ⟨K, M, L, S, T⟩ = (decide (1 ≤ L) && decide (S ≤ 65536) && decide (T.size = 0)) := by unfold okI; dsimp only; rw [if_neg k1', if_pos k2']
      clear k1 k2 k1' k2'
      cases a1 : decide (1 ≤ L)
      · have A1 := lez1 a1
        rw [a1] at hq
        have HQ := Lib.hid (show okI ⟨K, M, L, S, T⟩ = false by rw [hq]; rfl)
        clear hq a1
        go_enter Tryz.func66, Tryz.ntmps66
        go_wp2
        go_ret
        exact ⟨by rw [HQ.out]; rfl, (Below.refl _ _).alloc (Nat.le_refl _) _⟩
      · have A1 := lez1 a1
        rw [a1] at hq
        cases a2 : decide (S ≤ 65536)
        · have A2 := lezM a2
          rw [a2] at hq
          have HQ := Lib.hid (show okI ⟨K, M, L, S, T⟩ = false by rw [hq]; rfl)
          clear hq a1 a2
          go_enter Tryz.func66, Tryz.ntmps66
          go_wp2
          go_ret
          exact ⟨by rw [HQ.out]; rfl, (Below.refl _ _).alloc (Nat.le_refl _) _⟩
        · have A2 := lezM a2
          rw [a2] at hq
          cases a3 : decide (T.size = 0)
          · obtain ⟨A3, A4⟩ := emp_of a3
            have A5 := emp_no (of_decide_eq_false a3)
            rw [a3] at hq
            have HQ := Lib.hid (show okI ⟨K, M, L, S, T⟩ = false by rw [hq]; rfl)
            clear hq a1 a2 a3
            go_enter Tryz.func66, Tryz.ntmps66
            go_wp2
            go_ret
            exact ⟨by rw [HQ.out]; rfl, (Below.refl _ _).alloc (Nat.le_refl _) _⟩
          · obtain ⟨A3, A4⟩ := emp_of a3
            have A5 := emp_yes (of_decide_eq_true a3)
            rw [a3] at hq
            have HQ := Lib.hid (show okI ⟨K, M, L, S, T⟩ = true by rw [hq]; rfl)
            clear hq a1 a2 a3
            go_enter Tryz.func66, Tryz.ntmps66
            go_wp2
            go_ret
            exact ⟨by rw [HQ.out]; rfl, (Below.refl _ _).alloc (Nat.le_refl _) _⟩
  · have K1 := eqz1 k1
    have k1' := of_decide_eq_true k1
    have hq : okI ⟨K, M, L, S, T⟩ = (decide (L = 1) && decide (S = 0) && decide (T.size = 0)) := by unfold okI; dsimp only; rw [if_pos k1']
    clear k1 k1'
    cases a1 : decide (L = 1)
    · have A1 := eqz1 a1
      rw [a1] at hq
      have HQ := Lib.hid (show okI ⟨K, M, L, S, T⟩ = false by rw [hq]; rfl)
      clear hq a1
      go_enter Tryz.func66, Tryz.ntmps66
      go_wp2
      go_ret
      exact ⟨by rw [HQ.out]; rfl, (Below.refl _ _).alloc (Nat.le_refl _) _⟩
    · have A1 := eqz1 a1
      rw [a1] at hq
      cases a2 : decide (S = 0)
      · have A2 := eqz0 a2
        rw [a2] at hq
        have HQ := Lib.hid (show okI ⟨K, M, L, S, T⟩ = false by rw [hq]; rfl)
        clear hq a1 a2
        go_enter Tryz.func66, Tryz.ntmps66
        go_wp2
        go_ret
        exact ⟨by rw [HQ.out]; rfl, (Below.refl _ _).alloc (Nat.le_refl _) _⟩
      · have A2 := eqz0 a2
        rw [a2] at hq
        cases a3 : decide (T.size = 0)
        · obtain ⟨A3, A4⟩ := emp_of a3
          have A5 := emp_no (of_decide_eq_false a3)
          rw [a3] at hq
          have HQ := Lib.hid (show okI ⟨K, M, L, S, T⟩ = false by rw [hq]; rfl)
          clear hq a1 a2 a3
          go_enter Tryz.func66, Tryz.ntmps66
          go_wp2
          go_ret
          exact ⟨by rw [HQ.out]; rfl, (Below.refl _ _).alloc (Nat.le_refl _) _⟩
        · obtain ⟨A3, A4⟩ := emp_of a3
          have A5 := emp_yes (of_decide_eq_true a3)
          rw [a3] at hq
          have HQ := Lib.hid (show okI ⟨K, M, L, S, T⟩ = true by rw [hq]; rfl)
          clear hq a1 a2 a3
          go_enter Tryz.func66, Tryz.ntmps66
          go_wp2
          go_ret
          exact ⟨by rw [HQ.out]; rfl, (Below.refl _ _).alloc (Nat.le_refl _) _⟩
/-- which error -/
def chI (n : In) : Int := if okI n then 0 else 4
theorem check_in (n : In) (hl : n.lim) (w : World) :
    Calls Tryz.prog 46 #[vI n] w fun e w' => e = .returned (.int .i64 (chI n)) ∧ Below w.heap.size w w' := by
  obtain ⟨K, M, L, S, T⟩ := n
  have HC := Lib.hid (right_in ⟨K, M, L, S, T⟩ hl)
  have B0 := Lib.hid ((Below.refl w.heap.size w).alloc (Nat.le_refl _) (.cells #[.int .u8 K, .int .u16 M, .int .u32 L, .int .u32 S, .string T] 31))
  unfold vI
  dsimp only
  cases hq : okI ⟨K, M, L, S, T⟩
  all_goals
    rw [hq] at HC
    have HQ := Lib.hid (show chI ⟨K, M, L, S, T⟩ = _ by unfold chI; rw [hq])
    clear hq
    go_enter Tryz.func46, Tryz.ntmps46
    go_wp2_with (go_at_call 66; refine (HC.out _).mono ?_; rintro e w' ⟨rfl, hb⟩)
    go_ret
    exact ⟨by rw [HQ.out]; rfl, B0.out.trans (hb.mono B0.out.size)⟩
end Go.Proofs.YtngcogjjcidccaaGreat.Ino
