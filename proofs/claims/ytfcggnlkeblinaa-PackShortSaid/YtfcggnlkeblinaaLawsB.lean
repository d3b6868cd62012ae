/- The walks of the laws PackShort, PackBack and PackWide of package pack: each answers true. -/
import Derived.Test.YtfcggnlkeblinaaLawsA
namespace Go.Proofs.Ytfcggnlkeblinaa.Pk
set_option linter.unusedVariables false
open Go.ChangeShapes Go.WideShapes Go.ChangeAt Go.RowKit
theorem decF {p : Prop} [Decidable p] (h : ¬ p) : decide p = false := decide_eq_false h
theorem decT {p : Prop} [Decidable p] (h : p) : decide p = true := decide_eq_true h
theorem nB_le (m : Nat) (k : Int) : (nB m k).size ≤ 8 := by
  by_cases h1 : numOk m k = true
  · have := nB_size h1; have := (numOk_iff.1 h1).2.1; omega
  · rw [nB, if_neg h1]; decide
set_option maxHeartbeats 1000000 in
theorem packShort_walk (a k : Int) (t : ByteArray) (c : Int) (w : World) (ha : (Lit.int .u64 a).wf = true) (hk : (Lit.int .i64 k).wf = true) (ht : t.size ≤ 140737488351232) (hc : (Lit.int .i64 c).wf = true) :
    Calls Try.prog 11 #[.int .u64 a, .int .i64 k, .string t, .int .i64 c] w fun e w' => e = .returned (.bool true) ∧ Below w.heap.size w w' := by
  obtain ⟨m, rfl, hm⟩ := nat_of_u64 ha
  clear ha hk hc
  have HC1 := Lib.hid (fun w => number_any m k w hm)
  have HC2 := Lib.hid (fun w => text_any t w)
  have hz1 := xB_le t
  by_cases hc0 : 0 ≤ c
  · obtain ⟨d, rfl⟩ : ∃ d : Nat, c = d := ⟨c.toNat, by omega⟩
    have hneg : decide ((d : Int) < 0) = false := by simp
    have hpos : decide (0 ≤ (d : Int)) = true := by simp
    by_cases h1 : numOk m k = true
    · have e1 := nE_ok h1
      have hsz := nB_size h1
      by_cases hl1 : d < (nB m k).size
      · have g1 : decide (d < (nB m k).size) = true := decT hl1
        have HT1 := Lib.hid (fun (w : World) => take_any ((nB m k).extract 0 d) k w (by have := nB_le m k; rw [ByteArray.size_extract]; unfold maxLen; omega))
        have q1 := tE_short h1 d (by omega)
        clear h1 hsz
        by_cases h2 : t.size ≤ 65535
        · have e2 := xE_ok h2
          have hs2 := xB_size h2
          by_cases hl2 : d < (xB t).size
          · have g2 : decide ((xB t).size ≤ d) = false := decF (by omega)
            have HT2 := Lib.hid (fun (w : World) => taketext_any ((xB t).extract 0 d) w (by rw [ByteArray.size_extract]; unfold maxLen; omega))
            have q2 := uE_short h2 d (by omega)
            clear h2 hs2
            go_enter Try.func11, Try.ntmps11
            go_wp2_with fail
            (go_at_call 21; refine (numbers_true _).mono ?_; rintro e w1 ⟨rfl, hb1⟩)
            go_wp2_with fail
            (go_at_call 26; refine (texts_true _).mono ?_; rintro e w2 ⟨rfl, hb2⟩)
            go_wp2_with fail
            (go_at_call 17; refine (HC1.out _).mono ?_; rintro e w3 ⟨rfl, hb3⟩)
            go_wp2_with fail
            (go_at_call 19; refine (HT1.out _).mono ?_; rintro e w4 ⟨rfl, hb4⟩)
            go_wp2_with fail
            (go_at_call 22; refine (HC2.out _).mono ?_; rintro e w5 ⟨rfl, hb5⟩)
            go_wp2_with fail
            (go_at_call 24; refine (HT2.out _).mono ?_; rintro e w6 ⟨rfl, hb6⟩)
            go_wp2
            go_ret
            exact ⟨rfl, below_step (below_step (below_step (below_step (below_step hb1 hb2) hb3) hb4) hb5) hb6⟩
          · have g2 : decide ((xB t).size ≤ d) = true := decT (by omega)
            clear h2 hs2
            go_enter Try.func11, Try.ntmps11
            go_wp2_with fail
            (go_at_call 21; refine (numbers_true _).mono ?_; rintro e w1 ⟨rfl, hb1⟩)
            go_wp2_with fail
            (go_at_call 26; refine (texts_true _).mono ?_; rintro e w2 ⟨rfl, hb2⟩)
            go_wp2_with fail
            (go_at_call 17; refine (HC1.out _).mono ?_; rintro e w3 ⟨rfl, hb3⟩)
            go_wp2_with fail
            (go_at_call 19; refine (HT1.out _).mono ?_; rintro e w4 ⟨rfl, hb4⟩)
            go_wp2_with fail
            (go_at_call 22; refine (HC2.out _).mono ?_; rintro e w5 ⟨rfl, hb5⟩)
            go_wp2
            go_ret
            exact ⟨rfl, below_step (below_step (below_step (below_step hb1 hb2) hb3) hb4) hb5⟩
        · have e2 := xE_no h2
          go_enter Try.func11, Try.ntmps11
          go_wp2_with fail
          (go_at_call 21; refine (numbers_true _).mono ?_; rintro e w1 ⟨rfl, hb1⟩)
          go_wp2_with fail
          (go_at_call 26; refine (texts_true _).mono ?_; rintro e w2 ⟨rfl, hb2⟩)
          go_wp2_with fail
          (go_at_call 17; refine (HC1.out _).mono ?_; rintro e w3 ⟨rfl, hb3⟩)
          go_wp2_with fail
          (go_at_call 19; refine (HT1.out _).mono ?_; rintro e w4 ⟨rfl, hb4⟩)
          go_wp2_with fail
          (go_at_call 22; refine (HC2.out _).mono ?_; rintro e w5 ⟨rfl, hb5⟩)
          go_wp2
          go_ret
          exact ⟨rfl, below_step (below_step (below_step (below_step hb1 hb2) hb3) hb4) hb5⟩
      · have g1 : decide (d < (nB m k).size) = false := decF hl1
        clear h1 hsz
        by_cases h2 : t.size ≤ 65535
        · have e2 := xE_ok h2
          have hs2 := xB_size h2
          by_cases hl2 : d < (xB t).size
          · have g2 : decide ((xB t).size ≤ d) = false := decF (by omega)
            have HT2 := Lib.hid (fun (w : World) => taketext_any ((xB t).extract 0 d) w (by rw [ByteArray.size_extract]; unfold maxLen; omega))
            have q2 := uE_short h2 d (by omega)
            clear h2 hs2
            go_enter Try.func11, Try.ntmps11
            go_wp2_with fail
            (go_at_call 21; refine (numbers_true _).mono ?_; rintro e w1 ⟨rfl, hb1⟩)
            go_wp2_with fail
            (go_at_call 26; refine (texts_true _).mono ?_; rintro e w2 ⟨rfl, hb2⟩)
            go_wp2_with fail
            (go_at_call 17; refine (HC1.out _).mono ?_; rintro e w3 ⟨rfl, hb3⟩)
            go_wp2_with fail
            (go_at_call 22; refine (HC2.out _).mono ?_; rintro e w5 ⟨rfl, hb5⟩)
            go_wp2_with fail
            (go_at_call 24; refine (HT2.out _).mono ?_; rintro e w6 ⟨rfl, hb6⟩)
            go_wp2
            go_ret
            exact ⟨rfl, below_step (below_step (below_step (below_step hb1 hb2) hb3) hb5) hb6⟩
          · have g2 : decide ((xB t).size ≤ d) = true := decT (by omega)
            clear h2 hs2
            go_enter Try.func11, Try.ntmps11
            go_wp2_with fail
            (go_at_call 21; refine (numbers_true _).mono ?_; rintro e w1 ⟨rfl, hb1⟩)
            go_wp2_with fail
            (go_at_call 26; refine (texts_true _).mono ?_; rintro e w2 ⟨rfl, hb2⟩)
            go_wp2_with fail
            (go_at_call 17; refine (HC1.out _).mono ?_; rintro e w3 ⟨rfl, hb3⟩)
            go_wp2_with fail
            (go_at_call 22; refine (HC2.out _).mono ?_; rintro e w5 ⟨rfl, hb5⟩)
            go_wp2
            go_ret
            exact ⟨rfl, below_step (below_step (below_step hb1 hb2) hb3) hb5⟩
        · have e2 := xE_no h2
          go_enter Try.func11, Try.ntmps11
          go_wp2_with fail
          (go_at_call 21; refine (numbers_true _).mono ?_; rintro e w1 ⟨rfl, hb1⟩)
          go_wp2_with fail
          (go_at_call 26; refine (texts_true _).mono ?_; rintro e w2 ⟨rfl, hb2⟩)
          go_wp2_with fail
          (go_at_call 17; refine (HC1.out _).mono ?_; rintro e w3 ⟨rfl, hb3⟩)
          go_wp2_with fail
          (go_at_call 22; refine (HC2.out _).mono ?_; rintro e w5 ⟨rfl, hb5⟩)
          go_wp2
          go_ret
          exact ⟨rfl, below_step (below_step (below_step hb1 hb2) hb3) hb5⟩
    · have e1 := nE_no h1
      clear h1
      by_cases h2 : t.size ≤ 65535
      · have e2 := xE_ok h2
        have hs2 := xB_size h2
        by_cases hl2 : d < (xB t).size
        · have g2 : decide ((xB t).size ≤ d) = false := decF (by omega)
          have HT2 := Lib.hid (fun (w : World) => taketext_any ((xB t).extract 0 d) w (by rw [ByteArray.size_extract]; unfold maxLen; omega))
          have q2 := uE_short h2 d (by omega)
          clear h2 hs2
          go_enter Try.func11, Try.ntmps11
          go_wp2_with fail
          (go_at_call 21; refine (numbers_true _).mono ?_; rintro e w1 ⟨rfl, hb1⟩)
          go_wp2_with fail
          (go_at_call 26; refine (texts_true _).mono ?_; rintro e w2 ⟨rfl, hb2⟩)
          go_wp2_with fail
          (go_at_call 17; refine (HC1.out _).mono ?_; rintro e w3 ⟨rfl, hb3⟩)
          go_wp2_with fail
          (go_at_call 22; refine (HC2.out _).mono ?_; rintro e w5 ⟨rfl, hb5⟩)
          go_wp2_with fail
          (go_at_call 24; refine (HT2.out _).mono ?_; rintro e w6 ⟨rfl, hb6⟩)
          go_wp2
          go_ret
          exact ⟨rfl, below_step (below_step (below_step (below_step hb1 hb2) hb3) hb5) hb6⟩
        · have g2 : decide ((xB t).size ≤ d) = true := decT (by omega)
          clear h2 hs2
          go_enter Try.func11, Try.ntmps11
          go_wp2_with fail
          (go_at_call 21; refine (numbers_true _).mono ?_; rintro e w1 ⟨rfl, hb1⟩)
          go_wp2_with fail
          (go_at_call 26; refine (texts_true _).mono ?_; rintro e w2 ⟨rfl, hb2⟩)
          go_wp2_with fail
          (go_at_call 17; refine (HC1.out _).mono ?_; rintro e w3 ⟨rfl, hb3⟩)
          go_wp2_with fail
          (go_at_call 22; refine (HC2.out _).mono ?_; rintro e w5 ⟨rfl, hb5⟩)
          go_wp2
          go_ret
          exact ⟨rfl, below_step (below_step (below_step hb1 hb2) hb3) hb5⟩
      · have e2 := xE_no h2
        go_enter Try.func11, Try.ntmps11
        go_wp2_with fail
        (go_at_call 21; refine (numbers_true _).mono ?_; rintro e w1 ⟨rfl, hb1⟩)
        go_wp2_with fail
        (go_at_call 26; refine (texts_true _).mono ?_; rintro e w2 ⟨rfl, hb2⟩)
        go_wp2_with fail
        (go_at_call 17; refine (HC1.out _).mono ?_; rintro e w3 ⟨rfl, hb3⟩)
        go_wp2_with fail
        (go_at_call 22; refine (HC2.out _).mono ?_; rintro e w5 ⟨rfl, hb5⟩)
        go_wp2
        go_ret
        exact ⟨rfl, below_step (below_step (below_step hb1 hb2) hb3) hb5⟩
  · have hneg : decide (c < 0) = true := decT (by omega)
    have hpos : decide (0 ≤ c) = false := decF (by omega)
    by_cases h1 : numOk m k = true
    · have e1 := nE_ok h1
      clear h1
      by_cases h2 : t.size ≤ 65535
      · have e2 := xE_ok h2
        go_enter Try.func11, Try.ntmps11
        go_wp2_with fail
        (go_at_call 21; refine (numbers_true _).mono ?_; rintro e w1 ⟨rfl, hb1⟩)
        go_wp2_with fail
        (go_at_call 26; refine (texts_true _).mono ?_; rintro e w2 ⟨rfl, hb2⟩)
        go_wp2_with fail
        (go_at_call 17; refine (HC1.out _).mono ?_; rintro e w3 ⟨rfl, hb3⟩)
        go_wp2_with fail
        (go_at_call 22; refine (HC2.out _).mono ?_; rintro e w5 ⟨rfl, hb5⟩)
        go_wp2
        go_ret
        exact ⟨rfl, below_step (below_step (below_step hb1 hb2) hb3) hb5⟩
      · have e2 := xE_no h2
        go_enter Try.func11, Try.ntmps11
        go_wp2_with fail
        (go_at_call 21; refine (numbers_true _).mono ?_; rintro e w1 ⟨rfl, hb1⟩)
        go_wp2_with fail
        (go_at_call 26; refine (texts_true _).mono ?_; rintro e w2 ⟨rfl, hb2⟩)
        go_wp2_with fail
        (go_at_call 17; refine (HC1.out _).mono ?_; rintro e w3 ⟨rfl, hb3⟩)
        go_wp2_with fail
        (go_at_call 22; refine (HC2.out _).mono ?_; rintro e w5 ⟨rfl, hb5⟩)
        go_wp2
        go_ret
        exact ⟨rfl, below_step (below_step (below_step hb1 hb2) hb3) hb5⟩
    · have e1 := nE_no h1
      clear h1
      by_cases h2 : t.size ≤ 65535
      · have e2 := xE_ok h2
        go_enter Try.func11, Try.ntmps11
        go_wp2_with fail
        (go_at_call 21; refine (numbers_true _).mono ?_; rintro e w1 ⟨rfl, hb1⟩)
        go_wp2_with fail
        (go_at_call 26; refine (texts_true _).mono ?_; rintro e w2 ⟨rfl, hb2⟩)
        go_wp2_with fail
        (go_at_call 17; refine (HC1.out _).mono ?_; rintro e w3 ⟨rfl, hb3⟩)
        go_wp2_with fail
        (go_at_call 22; refine (HC2.out _).mono ?_; rintro e w5 ⟨rfl, hb5⟩)
        go_wp2
        go_ret
        exact ⟨rfl, below_step (below_step (below_step hb1 hb2) hb3) hb5⟩
      · have e2 := xE_no h2
        go_enter Try.func11, Try.ntmps11
        go_wp2_with fail
        (go_at_call 21; refine (numbers_true _).mono ?_; rintro e w1 ⟨rfl, hb1⟩)
        go_wp2_with fail
        (go_at_call 26; refine (texts_true _).mono ?_; rintro e w2 ⟨rfl, hb2⟩)
        go_wp2_with fail
        (go_at_call 17; refine (HC1.out _).mono ?_; rintro e w3 ⟨rfl, hb3⟩)
        go_wp2_with fail
        (go_at_call 22; refine (HC2.out _).mono ?_; rintro e w5 ⟨rfl, hb5⟩)
        go_wp2
        go_ret
        exact ⟨rfl, below_step (below_step (below_step hb1 hb2) hb3) hb5⟩
set_option maxHeartbeats 1000000 in
theorem packBack_walk (a k : Int) (t r : ByteArray) (w : World) (ha : (Lit.int .u64 a).wf = true) (hk : (Lit.int .i64 k).wf = true) (ht : t.size ≤ 140737488351232) (hr : r.size ≤ 140737488351232) :
    Calls Try.prog 6 #[.int .u64 a, .int .i64 k, .string t, .string r] w fun e w' => e = .returned (.bool true) ∧ Below w.heap.size w w' := by
  obtain ⟨m, rfl, hm⟩ := nat_of_u64 ha
  clear ha hk
  have HC1 := Lib.hid (fun w => number_any m k w hm)
  have HC2 := Lib.hid (fun w => text_any t w)
  have hz1 := xB_le t
  have hz2 := nB_le m k
  by_cases h1 : numOk m k = true
  · have e1 := nE_ok h1
    have hsz := nB_size h1
    have ht1 := fun (w : World) => take_any (nB m k ++ r) k w (by rw [ByteArray.size_append]; unfold maxLen; omega)
    rw [tN_back h1, tR_back h1, tE_back h1] at ht1
    have HT1 := Lib.hid ht1
    clear h1 ht1
    by_cases h2 : t.size ≤ 65535
    · have e2 := xE_ok h2
      have ht2 := fun (w : World) => taketext_any (xB t ++ r) w (by rw [ByteArray.size_append]; unfold maxLen; omega)
      rw [uT_back h2, uR_back h2, uE_back h2] at ht2
      have HT2 := Lib.hid ht2
      clear h2 ht2
      go_enter Try.func6, Try.ntmps6
      go_wp2_with fail
      (go_at_call 21; refine (numbers_true _).mono ?_; rintro e w1 ⟨rfl, hb1⟩)
      go_wp2_with fail
      (go_at_call 26; refine (texts_true _).mono ?_; rintro e w2 ⟨rfl, hb2⟩)
      go_wp2_with fail
      (go_at_call 17; refine (HC1.out _).mono ?_; rintro e w3 ⟨rfl, hb3⟩)
      go_wp2_with fail
      (go_at_call 19; refine (HT1.out _).mono ?_; rintro e w4 ⟨rfl, hb4⟩)
      go_wp2_with fail
      (go_at_call 22; refine (HC2.out _).mono ?_; rintro e w5 ⟨rfl, hb5⟩)
      go_wp2_with fail
      (go_at_call 24; refine (HT2.out _).mono ?_; rintro e w6 ⟨rfl, hb6⟩)
      go_wp2
      go_ret
      exact ⟨rfl, below_step (below_step (below_step (below_step (below_step hb1 hb2) hb3) hb4) hb5) hb6⟩
    · have e2 := xE_no h2
      have e3 : xB t = ByteArray.empty := by rw [xB, if_neg h2]
      have h3 : 65535 < t.size := by omega
      have hc2 := HC2.out
      rw [e2, e3] at hc2
      have HC3 := Lib.hid hc2
      clear hc2 e2 e3 h2 HC2
      go_enter Try.func6, Try.ntmps6
      go_wp2_with fail
      (go_at_call 21; refine (numbers_true _).mono ?_; rintro e w1 ⟨rfl, hb1⟩)
      go_wp2_with fail
      (go_at_call 26; refine (texts_true _).mono ?_; rintro e w2 ⟨rfl, hb2⟩)
      go_wp2_with fail
      (go_at_call 17; refine (HC1.out _).mono ?_; rintro e w3 ⟨rfl, hb3⟩)
      go_wp2_with fail
      (go_at_call 19; refine (HT1.out _).mono ?_; rintro e w4 ⟨rfl, hb4⟩)
      go_wp2_with fail
      (go_at_call 22; refine (HC3.out _).mono ?_; rintro e w5 ⟨rfl, hb5⟩)
      go_wp2
      go_ret
      exact ⟨rfl, below_step (below_step (below_step (below_step hb1 hb2) hb3) hb4) hb5⟩
  · have e1 := nE_no h1
    clear h1
    by_cases h2 : t.size ≤ 65535
    · have e2 := xE_ok h2
      have ht2 := fun (w : World) => taketext_any (xB t ++ r) w (by rw [ByteArray.size_append]; unfold maxLen; omega)
      rw [uT_back h2, uR_back h2, uE_back h2] at ht2
      have HT2 := Lib.hid ht2
      clear h2 ht2
      go_enter Try.func6, Try.ntmps6
      go_wp2_with fail
      (go_at_call 21; refine (numbers_true _).mono ?_; rintro e w1 ⟨rfl, hb1⟩)
      go_wp2_with fail
      (go_at_call 26; refine (texts_true _).mono ?_; rintro e w2 ⟨rfl, hb2⟩)
      go_wp2_with fail
      (go_at_call 17; refine (HC1.out _).mono ?_; rintro e w3 ⟨rfl, hb3⟩)
      go_wp2_with fail
      (go_at_call 22; refine (HC2.out _).mono ?_; rintro e w5 ⟨rfl, hb5⟩)
      go_wp2_with fail
      (go_at_call 24; refine (HT2.out _).mono ?_; rintro e w6 ⟨rfl, hb6⟩)
      go_wp2
      go_ret
      exact ⟨rfl, below_step (below_step (below_step (below_step hb1 hb2) hb3) hb5) hb6⟩
    · have e2 := xE_no h2
      have e3 : xB t = ByteArray.empty := by rw [xB, if_neg h2]
      have h3 : 65535 < t.size := by omega
      have hc2 := HC2.out
      rw [e2, e3] at hc2
      have HC3 := Lib.hid hc2
      clear hc2 e2 e3 h2 HC2
      go_enter Try.func6, Try.ntmps6
      go_wp2_with fail
      (go_at_call 21; refine (numbers_true _).mono ?_; rintro e w1 ⟨rfl, hb1⟩)
      go_wp2_with fail
      (go_at_call 26; refine (texts_true _).mono ?_; rintro e w2 ⟨rfl, hb2⟩)
      go_wp2_with fail
      (go_at_call 17; refine (HC1.out _).mono ?_; rintro e w3 ⟨rfl, hb3⟩)
      go_wp2_with fail
      (go_at_call 22; refine (HC3.out _).mono ?_; rintro e w5 ⟨rfl, hb5⟩)
      go_wp2
      go_ret
      exact ⟨rfl, below_step (below_step (below_step hb1 hb2) hb3) hb5⟩
end Go.Proofs.Ytfcggnlkeblinaa.Pk
