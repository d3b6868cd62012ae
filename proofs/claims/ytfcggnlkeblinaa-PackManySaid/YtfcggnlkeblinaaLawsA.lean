/- The walks of the laws of package pack that ask for numbers and texts: each answers true. -/
import Derived.Test.YtfcggnlkeblinaaMathB
namespace Go.Proofs.Ytfcggnlkeblinaa.Pk
set_option linter.unusedVariables false
open Go.ChangeShapes Go.WideShapes Go.ChangeAt Go.RowKit
theorem below_q (w w1 : World) (q : Nat) (h : Below w.heap.size w w1) : Below w.heap.size w (w1.drewN q) := ⟨h.os, h.tape, h.output, h.size, h.block⟩
theorem numbers_true (w : World) :
    Calls Try.prog 21 #[] w fun e w' => e = .returned (.bool true) ∧ Below w.heap.size w w' := by
  have hc : ∀ w : World, Calls Try.prog 17 #[.int .u64 258, .int .i64 2] w fun e w' => e = .returned (.tuple #[.string ⟨#[1, 2]⟩, .int .i64 0]) ∧ Below w.heap.size w w' :=
    fun w => number_yes 258 2 w (by omega) (by omega) (by omega) (by omega)
  have e3 : (⟨#[1, 2, 120]⟩ : ByteArray).extract 2 3 = ⟨#[120]⟩ := by decide
  have hd : ∀ w : World, Calls Try.prog 19 #[.string ⟨#[1, 2, 120]⟩, .int .i64 2] w fun e w' => e = .returned (.tuple #[.int .u64 258, .string ⟨#[120]⟩, .int .i64 0]) ∧ ∃ q, w' = w.drewN q := by
    intro w
    have := take_yes ⟨#[1, 2, 120]⟩ 2 w (by omega) (by omega) (by decide) (by decide)
    rw [show (⟨#[1, 2, 120]⟩ : ByteArray).size = 3 from rfl, e3] at this
    exact this
  clear e3
  go_enter Try.func21, Try.ntmps21
  go_wp2_with (first
    | (go_at_call 17; refine (hc _).mono ?_; rintro e w' ⟨rfl, hbel⟩)
    | (go_at_call 19; refine (hd _).mono ?_; rintro e w' ⟨rfl, q, rfl⟩))
  go_ret
  exact ⟨rfl, below_q _ _ _ hbel⟩
theorem texts_true (w : World) :
    Calls Try.prog 26 #[] w fun e w' => e = .returned (.bool true) ∧ Below w.heap.size w w' := by
  have hc : ∀ w : World, Calls Try.prog 22 #[.string ⟨#[97]⟩] w fun e w' => e = .returned (.tuple #[.string ⟨#[0, 1, 97]⟩, .int .i64 0]) ∧ Below w.heap.size w w' := by
    intro w
    have := text_yes ⟨#[97]⟩ w (by decide)
    rw [show bs (be 2 (⟨#[97]⟩ : ByteArray).size) ++ ⟨#[97]⟩ = ⟨#[0, 1, 97]⟩ by decide] at this
    exact this
  have hd : ∀ w : World, Calls Try.prog 24 #[.string ⟨#[0, 1, 97, 98]⟩] w fun e w' => e = .returned (.tuple #[.string ⟨#[97]⟩, .string ⟨#[98]⟩, .int .i64 0]) ∧ Below w.heap.size w w' := by
    intro w
    have := taketext_any ⟨#[0, 1, 97, 98]⟩ w (by decide)
    rw [show uT ⟨#[0, 1, 97, 98]⟩ = ⟨#[97]⟩ by decide, show uR ⟨#[0, 1, 97, 98]⟩ = ⟨#[98]⟩ by decide, show uE ⟨#[0, 1, 97, 98]⟩ = 0 by decide] at this
    exact this
  go_enter Try.func26, Try.ntmps26
  go_wp2_with (first
    | (go_at_call 22; refine (hc _).mono ?_; rintro e w1 ⟨rfl, hb1⟩)
    | (go_at_call 24; refine (hd _).mono ?_; rintro e w2 ⟨rfl, hb2⟩))
  go_ret
  exact ⟨rfl, hb1.trans (hb2.mono hb1.size)⟩
theorem ref_taketext_any (s : ByteArray) (w : World) (h4 : s.size ≤ maxLen) :
    Calls Try.prog 25 #[.string s] w fun e w' => e = .returned (.tuple #[.string (uT s), .string (uR s), .int .i64 (uE s)]) ∧ Below w.heap.size w w' := by
  have hc := ref_take_any s 2 w h4
  unfold maxLen at h4
  by_cases h2 : 2 ≤ s.size
  · have hcc : 1 ≤ (2 : Int) ∧ (2 : Int) ≤ 8 ∧ (2 : Int).toNat ≤ s.size := ⟨by omega, by omega, h2⟩
    rw [show tN s 2 = ((uN s : Nat) : Int) by rw [tN, if_pos hcc]; rfl, show tR s 2 = s.extract 2 s.size by rw [tR, if_pos hcc]; rfl, show tE s 2 = 0 by rw [tE, if_pos ⟨hcc.1, hcc.2.1⟩, if_pos hcc.2.2]] at hc
    obtain ⟨n, hn⟩ : ∃ n, n = uN s := ⟨_, rfl⟩
    rw [← hn] at hc
    have HN := Lib.hid hn
    clear hn hcc
    by_cases h3 : n ≤ s.size - 2
    · have hd : decide (s.size - 2 < n) = false := by simp; omega
      go_enter Try.func25, Try.ntmps25
      go_wp2_with (first
        | (go_at_call 20; refine hc.mono ?_; rintro e w' ⟨rfl, hb⟩))
      go_quiet (fail)
      go_wp2
      go_ret3
      have hok : uOk s = true := by unfold uOk; rw [decide_eq_true_eq, ← HN.out]; exact ⟨h2, h3⟩
      refine ⟨ret3s ?_ ?_ ?_, below_q _ _ _ hb⟩
      · rw [uT, if_pos hok, ← HN.out]
      · rw [uR, if_pos hok, ← HN.out]
      · rw [uE, if_pos hok]
    · have hd : s.size - 2 < n := by omega
      go_enter Try.func25, Try.ntmps25
      go_wp2_with (first
        | (go_at_call 20; refine hc.mono ?_; rintro e w' ⟨rfl, hb⟩))
      go_ret3
      have hok : ¬ uOk s = true := by unfold uOk; rw [decide_eq_true_eq, ← HN.out]; exact fun h => h3 h.2
      refine ⟨ret3s ?_ ?_ ?_, hb⟩
      · rw [uT, if_neg hok]; rfl
      · rw [uR, if_neg hok]; rfl
      · rw [uE, if_neg hok]
  · have hcc : ¬ (1 ≤ (2 : Int) ∧ (2 : Int) ≤ 8 ∧ (2 : Int).toNat ≤ s.size) := fun h => h2 h.2.2
    rw [show tN s 2 = 0 by rw [tN, if_neg hcc], show tR s 2 = ByteArray.empty by rw [tR, if_neg hcc], show tE s 2 = 3 by rw [tE, if_pos ⟨by omega, by omega⟩, if_neg (show ¬ ((2 : Int).toNat ≤ s.size) from h2)]] at hc
    have hok : ¬ uOk s = true := by unfold uOk; rw [decide_eq_true_eq]; exact fun h => h2 h.1
    have HO := Lib.hid hok
    clear hok hcc
    go_enter Try.func25, Try.ntmps25
    go_wp2_with (first
      | (go_at_call 20; refine hc.mono ?_; rintro e w' ⟨rfl, hb⟩))
    go_ret3
    refine ⟨ret3s ?_ ?_ ?_, hb⟩
    · rw [uT, if_neg HO.out]; rfl
    · rw [uR, if_neg HO.out]; rfl
    · rw [uE, if_neg HO.out]
theorem nat_of_u64 {n : Int} (h : (Lit.int .u64 n).wf = true) : ∃ m : Nat, n = m ∧ m < 18446744073709551616 := by
  have := bounds_u64 h
  exact ⟨n.toNat, by omega, by omega⟩
theorem below_step {w w1 w2 : World} (h1 : Below w.heap.size w w1) (h2 : Below w1.heap.size w1 w2) : Below w.heap.size w w2 := h1.trans (h2.mono h1.size)
theorem packNumbers_walk (n k : Int) (s : ByteArray) (w : World) (hn : (Lit.int .u64 n).wf = true) (hk : (Lit.int .i64 k).wf = true) (hs : s.size ≤ 140737488351232) :
    Calls Try.prog 4 #[.int .u64 n, .int .i64 k, .string s] w fun e w' => e = .returned (.bool true) ∧ Below w.heap.size w w' := by
  obtain ⟨m, rfl, hm⟩ := nat_of_u64 hn
  clear hn hk
  go_enter Try.func4, Try.ntmps4
  go_wp2_with (first
    | (go_at_call 17; refine (number_any m k _ hm).mono ?_; rintro e w1 ⟨rfl, hb1⟩)
    | (go_at_call 18; refine (ref_number_any m k _ hm).mono ?_; rintro e w2 ⟨rfl, hb2⟩)
    | (go_at_call 19; refine (take_any s k _ (by unfold maxLen; omega)).mono ?_; rintro e w3 ⟨rfl, hb3⟩)
    | (go_at_call 20; refine (ref_take_any s k _ (by unfold maxLen; omega)).mono ?_; rintro e w4 ⟨rfl, hb4⟩)
    | (go_at_call 21; refine (numbers_true _).mono ?_; rintro e w5 ⟨rfl, hb5⟩))
  go_ret
  exact ⟨rfl, below_step (below_step (below_step (below_step hb1 hb2) hb3) hb4) hb5⟩
theorem packTexts_walk (t s : ByteArray) (w : World) (ht : t.size ≤ 140737488351232) (hs : s.size ≤ 140737488351232) :
    Calls Try.prog 5 #[.string t, .string s] w fun e w' => e = .returned (.bool true) ∧ Below w.heap.size w w' := by
  go_enter Try.func5, Try.ntmps5
  go_wp2_with (first
    | (go_at_call 22; refine (text_any t _).mono ?_; rintro e w1 ⟨rfl, hb1⟩)
    | (go_at_call 23; refine (ref_text_any t _).mono ?_; rintro e w2 ⟨rfl, hb2⟩)
    | (go_at_call 24; refine (taketext_any s _ (by unfold maxLen; omega)).mono ?_; rintro e w3 ⟨rfl, hb3⟩)
    | (go_at_call 25; refine (ref_taketext_any s _ (by unfold maxLen; omega)).mono ?_; rintro e w4 ⟨rfl, hb4⟩)
    | (go_at_call 26; refine (texts_true _).mono ?_; rintro e w5 ⟨rfl, hb5⟩))
  go_ret
  exact ⟨rfl, below_step (below_step (below_step (below_step hb1 hb2) hb3) hb4) hb5⟩
theorem packOrder_walk (a b k : Int) (w : World) (ha : (Lit.int .u64 a).wf = true) (hb : (Lit.int .u64 b).wf = true) (hk : (Lit.int .i64 k).wf = true) :
    Calls Try.prog 8 #[.int .u64 a, .int .u64 b, .int .i64 k] w fun e w' => e = .returned (.bool true) ∧ Below w.heap.size w w' := by
  obtain ⟨m, rfl, hm⟩ := nat_of_u64 ha
  obtain ⟨n, rfl, hn⟩ := nat_of_u64 hb
  clear ha hb hk
  have c1 := fun w => number_any m k w hm
  have c2 := fun w => number_any n k w hn
  have HC1 := Lib.hid c1
  have HC2 := Lib.hid c2
  clear c1 c2
  by_cases h1 : numOk m k = true
  · have e1 := nE_ok h1
    by_cases h2 : numOk n k = true
    · have e2 := nE_ok h2
      have hl : Op.bytesLess (nB m k).toList (nB n k).toList = decide (m < n) := by
        rw [nB_ok h1, nB_ok h2, bs_list, bs_list, bytesLess_be, Nat.mod_eq_of_lt (numOk_iff.1 h1).2.2, Nat.mod_eq_of_lt (numOk_iff.1 h2).2.2]
      clear h1 h2
      by_cases hlt : m < n
      · have h5 : Op.bytesLess (nB m k).toList (nB n k).toList = true := by rw [hl]; simpa using hlt
        clear hl
        go_enter Try.func8, Try.ntmps8
        go_wp2_with fail
        (go_at_call 21; refine (numbers_true _).mono ?_; rintro e w1 ⟨rfl, hb1⟩)
        go_wp2_with fail
        (go_at_call 17; refine (HC1.out _).mono ?_; rintro e w2 ⟨rfl, hb2⟩)
        go_wp2_with fail
        (go_at_call 17; refine (HC2.out _).mono ?_; rintro e w3 ⟨rfl, hb3⟩)
        go_wp2
        go_ret
        exact ⟨rfl, below_step (below_step hb1 hb2) hb3⟩
      · have h5 : Op.bytesLess (nB m k).toList (nB n k).toList = false := by rw [hl]; simpa using hlt
        have h6 : decide (m < n) = false := by simpa using hlt
        clear hl
        go_enter Try.func8, Try.ntmps8
        go_wp2_with fail
        (go_at_call 21; refine (numbers_true _).mono ?_; rintro e w1 ⟨rfl, hb1⟩)
        go_wp2_with fail
        (go_at_call 17; refine (HC1.out _).mono ?_; rintro e w2 ⟨rfl, hb2⟩)
        go_wp2_with fail
        (go_at_call 17; refine (HC2.out _).mono ?_; rintro e w3 ⟨rfl, hb3⟩)
        go_wp2
        go_ret
        exact ⟨rfl, below_step (below_step hb1 hb2) hb3⟩
    · have e2 := nE_no h2
      clear h1 h2
      go_enter Try.func8, Try.ntmps8
      go_wp2_with fail
      (go_at_call 21; refine (numbers_true _).mono ?_; rintro e w1 ⟨rfl, hb1⟩)
      go_wp2_with fail
      (go_at_call 17; refine (HC1.out _).mono ?_; rintro e w2 ⟨rfl, hb2⟩)
      go_wp2_with fail
      (go_at_call 17; refine (HC2.out _).mono ?_; rintro e w3 ⟨rfl, hb3⟩)
      go_wp2
      go_ret
      exact ⟨rfl, below_step (below_step hb1 hb2) hb3⟩
  · have e1 := nE_no h1
    clear h1
    go_enter Try.func8, Try.ntmps8
    go_wp2_with fail
    (go_at_call 21; refine (numbers_true _).mono ?_; rintro e w1 ⟨rfl, hb1⟩)
    go_wp2_with fail
    (go_at_call 17; refine (HC1.out _).mono ?_; rintro e w2 ⟨rfl, hb2⟩)
    go_wp2_with fail
    (go_at_call 17; refine (HC2.out _).mono ?_; rintro e w3 ⟨rfl, hb3⟩)
    go_wp2
    go_ret
    exact ⟨rfl, below_step (below_step hb1 hb2) hb3⟩
end Go.Proofs.Ytfcggnlkeblinaa.Pk
