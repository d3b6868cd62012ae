/- The walk of the law PackWide of package pack: it answers true. -/
import Derived.Test.YtfcggnlkeblinaaLawsB
import Derived.Deep.RegionHeld
import Derived.Deep.OwnRows
namespace Go.Proofs.Ytfcggnlkeblinaa.Pk
set_option linter.unusedVariables false
open Go.ChangeShapes Go.WideShapes Go.ChangeAt Go.RowKit
theorem u8s_zero (d : Nat) (i : Nat) (h : i < d) : (madeCells #[Value.int .u8 0] d)[i]? = some (.int .u8 0) := by
  have := congrArg (fun l : List Value => l[i]?) (toList_madeCells_one (.int .u8 0) d)
  simp only [Array.getElem?_toList] at this
  rw [this, List.getElem?_replicate, if_pos h]
theorem conv_zeros (V : World) (g d : Nat) (hc : ∀ i, i < d → V.cell? ⟨g, i, none⟩ = some (.int .u8 0)) : (convert 38 9 (.slice (some ⟨g, 0, none⟩) d d)).run Try.prog V = .ok (.string (bs (List.replicate d 0))) V := by
  have h := run_convert_bytes_back (P := Try.prog) V 38 9 5 ⟨g, 0, none⟩ d (List.replicate d 0) Try.underlying38 Try.underlying5 Try.underlying9 (by
    intro j hj
    have hplain : (⟨g, 0, none⟩ : Addr).add j = ⟨g, j, none⟩ := by unfold Addr.add; split <;> simp_all
    rw [List.length_replicate] at hj
    rw [hplain, hc j hj]
    simp)
  rw [List.length_replicate] at h
  exact h
theorem conv_made (W : World) (d : Nat) : (convert 38 9 (.slice (some ⟨W.heap.size, 0, none⟩) d d)).run Try.prog (W.alloc (.cells (madeCells #[.int .u8 0] d) 5)) = .ok (.string (bs (List.replicate d 0))) (W.alloc (.cells (madeCells #[.int .u8 0] d) 5)) :=
  conv_zeros _ _ d fun i hi => by
    rw [cell_of_row (W.alloc (.cells (madeCells #[.int .u8 0] d) 5)) W.heap.size i (madeCells #[.int .u8 0] d) 5 (0, 0) (heap_alloc_new W _)]
    exact u8s_zero d i hi
theorem conv_made' (W : World) (d : Nat) : (convert 38 9 (.slice (some ⟨W.heap.size, 0, none⟩) d d)).run Try.prog (W.alloc (.cells (madeCells #[.int .u8 0] d) 5)).drew = .ok (.string (bs (List.replicate d 0))) (W.alloc (.cells (madeCells #[.int .u8 0] d) 5)).drew :=
  conv_zeros _ _ d fun i hi => by
    show (W.alloc (.cells (madeCells #[.int .u8 0] d) 5)).cell? _ = _
    rw [cell_of_row (W.alloc (.cells (madeCells #[.int .u8 0] d) 5)) W.heap.size i (madeCells #[.int .u8 0] d) 5 (0, 0) (heap_alloc_new W _)]
    exact u8s_zero d i hi
set_option maxHeartbeats 1000000 in
theorem wide_yes (m a d : Nat) (w : World) (hm : m < 18446744073709551616) (h1 : numOk m a = true) (hb : d + a ≤ 8) :
    Calls Try.prog 12 #[.int .u64 m, .int .i64 a, .int .i64 (d + a : Nat)] w fun e w' => e = .returned (.bool true) ∧ Below w.heap.size w w' := by
  have h2 := wide_pad h1 (show (a : Int) ≤ (d + a : Nat) by omega) (by omega)
  have c1 := fun w => number_any m a w hm
  have c2 := fun w => number_any m (d + a : Nat) w hm
  have hw := wide_eq h1 (show (a : Int) ≤ (d + a : Nat) by omega) (by omega)
  have e1 := nE_ok h1
  have e2 := nE_ok h2
  have s2 := nB_size h2
  have s1 := nB_size h1
  obtain ⟨t, ht⟩ : ∃ t, t = nB m (d + a : Nat) := ⟨_, rfl⟩
  obtain ⟨s, hs⟩ : ∃ t, t = nB m a := ⟨_, rfl⟩
  rw [← ht, ← hs] at hw
  rw [show (((d + a : Nat) : Int) - a).toNat = d by omega] at hw
  rw [← ht] at s2
  rw [← hs] at s1
  rw [← hs, e1] at c1
  rw [← ht, e2] at c2
  have x1 : t.extract d t.size = s := by
    rw [hw]
    exact ByteArray.extract_append_eq_right (by rw [bs_size, List.length_replicate]) (by rw [ByteArray.size_append])
  have x2 : t.extract 0 d = bs (List.replicate d 0) := by
    rw [hw]
    exact ByteArray.extract_append_eq_left (by rw [bs_size, List.length_replicate])
  have HC1 := Lib.hid c1
  have HC2 := Lib.hid c2
  have HX1 := Lib.hid x1
  have HX2 := Lib.hid x2
  have hle : d ≤ t.size := by omega
  have hd0 : decide (((d + a : Nat) : Int) < a) = false := decF (by omega)
  have hd1 : decide ((8 : Int) < ((d + a : Nat) : Int)) = false := decF (by omega)
  have HMK := Lib.hid (fun (W : World) => run_make_row' (P := Try.prog) (w := W) 38 5 (.int .u8 0) 1 Try.underlying38 info5 rfl .i64 .i64 d (by omega) (by omega))
  clear c1 c2 hw h1 h2 s1 s2 ht hs e1 e2 x1 x2
  go_enter Try.func12, Try.ntmps12
  go_wp2_with fail
  (go_at_call 21; refine (numbers_true _).mono ?_; rintro e w1 ⟨rfl, hb1⟩)
  go_wp2_with fail
  (go_at_call 17; refine (HC1.out _).mono ?_; rintro e w2 ⟨rfl, hb2⟩)
  go_wp2_with fail
  (go_at_call 17; refine (HC2.out _).mono ?_; rintro e w3 ⟨rfl, hb3⟩)
  go_wp2
  have hcv := conv_made w3 d
  have hcv' := conv_made' w3 d
  have hmk := HMK.out
  have x1 := HX1.out
  have x2 := HX2.out
  clear HC1 HC2 HX1 HX2 HMK
  have hwr : IntKind.i64.wrap (d : Int) = (d : Int) := IntWalk.i64_in (d : Int) ⟨by omega, by omega⟩
  have hd2 : (0 : Int) ≤ (d : Int) := by omega
  have hd3 : (d : Int) ≤ (t.size : Int) := by omega
  go_region_held (fun _ => True) (trivial) (fail)
  go_wp2
  go_ret
  have hb4 := below_step (below_step hb1 hb2) hb3
  exact ⟨rfl, (hb4.alloc hb4.size _).drew⟩
theorem packWide_walk (n a b : Int) (w : World) (hn : (Lit.int .u64 n).wf = true) (ha : (Lit.int .i64 a).wf = true) (hb : (Lit.int .i64 b).wf = true) :
    Calls Try.prog 12 #[.int .u64 n, .int .i64 a, .int .i64 b] w fun e w' => e = .returned (.bool true) ∧ Below w.heap.size w w' := by
  obtain ⟨m, rfl, hm⟩ := nat_of_u64 hn
  clear hn ha hb
  have HC1 := Lib.hid (fun w => number_any m a w hm)
  have HC2 := Lib.hid (fun w => number_any m b w hm)
  by_cases h1 : numOk m a = true
  · have hk := numOk_iff.1 h1
    by_cases h2 : b < a
    · have e1 := nE_ok h1
      have hd0 : decide (b < a) = true := decT h2
      clear h1 h2 hk
      go_enter Try.func12, Try.ntmps12
      go_wp2_with fail
      (go_at_call 21; refine (numbers_true _).mono ?_; rintro e w1 ⟨rfl, hb1⟩)
      go_wp2_with fail
      (go_at_call 17; refine (HC1.out _).mono ?_; rintro e w2 ⟨rfl, hb2⟩)
      go_wp2_with fail
      (go_at_call 17; refine (HC2.out _).mono ?_; rintro e w3 ⟨rfl, hb3⟩)
      go_wp2
      go_ret
      exact ⟨rfl, below_step (below_step hb1 hb2) hb3⟩
    · by_cases h3 : 8 < b
      · have e1 := nE_ok h1
        have hd0 : decide (b < a) = false := decF h2
        have hd1 : decide (8 < b) = true := decT h3
        clear h1 h2 hk h3
        go_enter Try.func12, Try.ntmps12
        go_wp2_with fail
        (go_at_call 21; refine (numbers_true _).mono ?_; rintro e w1 ⟨rfl, hb1⟩)
        go_wp2_with fail
        (go_at_call 17; refine (HC1.out _).mono ?_; rintro e w2 ⟨rfl, hb2⟩)
        go_wp2_with fail
        (go_at_call 17; refine (HC2.out _).mono ?_; rintro e w3 ⟨rfl, hb3⟩)
        go_wp2
        go_ret
        exact ⟨rfl, below_step (below_step hb1 hb2) hb3⟩
      · obtain ⟨d, hd⟩ : ∃ d : Nat, b = (d + a.toNat : Nat) := ⟨(b - a).toNat, by omega⟩
        obtain ⟨q, rfl⟩ : ∃ q : Nat, a = q := ⟨a.toNat, by omega⟩
        rw [Int.toNat_natCast] at hd
        subst hd
        exact wide_yes m q d w hm h1 (by omega)
  · have e1 := nE_no h1
    clear h1
    go_enter Try.func12, Try.ntmps12
    go_wp2_with fail
    (go_at_call 21; refine (numbers_true _).mono ?_; rintro e w1 ⟨rfl, hb1⟩)
    go_wp2_with fail
    (go_at_call 17; refine (HC1.out _).mono ?_; rintro e w2 ⟨rfl, hb2⟩)
    go_wp2_with fail
    (go_at_call 17; refine (HC2.out _).mono ?_; rintro e w3 ⟨rfl, hb3⟩)
    go_wp2
    go_ret
    exact ⟨rfl, below_step (below_step hb1 hb2) hb3⟩
end Go.Proofs.Ytfcggnlkeblinaa.Pk
