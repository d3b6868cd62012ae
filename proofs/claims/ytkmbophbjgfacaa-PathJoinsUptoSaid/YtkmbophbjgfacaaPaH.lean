/- The walks of the laws of package path: each answers true. -/
import Derived.Test.YtkmbophbjgfacaaPaG
namespace Go.Proofs.Ytkmbophbjgfacaa.Ph
set_option linter.unusedVariables false
set_option linter.unusedSimpArgs false
open Go.ChangeShapes Go.WideShapes Go.ChangeAt Go.RowKit
open BigFrame
open Ar
theorem refNameQ (s : ByteArray) (hs : s.size ≤ maxLen) (q : Bool) (hq : nb s = q) (w : World) : Calls Try.prog 21 #[.string s] w fun e w' => e = .returned (.bool q) ∧ w = w' := by
  subst hq
  exact refName_any s w hs
theorem str_same (x : ByteArray) : (x.toList == x.toList) = true := beq_self_eq_true _
theorem bool_same (x : Bool) : (x == x) = true := by simp
set_option maxRecDepth 100000 in
set_option maxHeartbeats 1000000 in
theorem pathSplits_walk (w : World) (p : ByteArray) (hp : p.size ≤ maxLen) :
    Calls Try.prog 3 #[.string p] w fun e w' => e = .returned (.bool true) ∧ Below w.heap.size w w' := by
  obtain ⟨x, hx⟩ : ∃ x, spX p = x := ⟨_, rfl⟩
  obtain ⟨D, hD⟩ : ∃ D, spB p = D := ⟨_, rfl⟩
  obtain ⟨y, hy⟩ : ∃ x, laX p = x := ⟨_, rfl⟩
  obtain ⟨E, hE⟩ : ∃ D, laD p = D := ⟨_, rfl⟩
  obtain ⟨t, ht⟩ : ∃ D, laN p = D := ⟨_, rfl⟩
  obtain ⟨q, hq⟩ : ∃ D, nb p = D := ⟨_, rfl⟩
  have C1 := Lib.hid (splitN p hp x D hx hD)
  have C2 := Lib.hid (refSplitN p hp x D hx hD)
  have C3 := Lib.hid (lastN p hp y t E hy ht hE)
  have C4 := Lib.hid (refLastN p hp y t E hy ht hE)
  have C5 := Lib.hid (nameQ p q hq)
  have C6 := Lib.hid (refNameQ p hp q hq)
  have q1 := str_same t
  have q2 := bool_same q
  clear hx hD hy hE ht hq
  unfold maxLen at hp
  go_enter Try.func3, Try.ntmps3
  go_wp2_with fail
  refine (C1.out _).mono ?_
  rintro e w1 ⟨A1, n1, c1, rfl, N1, hb1⟩
  have H1 := Lib.hid N1
  have B1 := Lib.hid hb1
  clear N1 hb1 C1
  go_wp2_with fail
  refine (C2.out _).mono ?_
  rintro e w2 ⟨A2, n2, c2, rfl, N2, hb2⟩
  have H1' := Lib.hid (H1.out.go hb2)
  have H2 := Lib.hid N2
  have B2 := Lib.hid (B1.out.trans (hb2.mono B1.out.size))
  clear N2 hb2 C2 H1 B1
  go_wp2_with fail
  refine (C3.out _).mono ?_
  rintro e w3 ⟨A3, n3, c3, rfl, N3, hb3⟩
  have K1 := Lib.hid (H1'.out.go hb3)
  have K2 := Lib.hid (H2.out.go hb3)
  have K3 := Lib.hid N3
  have B3 := Lib.hid (B2.out.trans (hb3.mono B2.out.size))
  clear N3 hb3 C3 H1' H2 B2
  go_wp2_with fail
  refine (C4.out _).mono ?_
  rintro e w4 ⟨A4, n4, c4, rfl, N4, hb4⟩
  have L1 := Lib.hid (K1.out.go hb4)
  have L2 := Lib.hid (K2.out.go hb4)
  have L3 := Lib.hid (K3.out.go hb4)
  have L4 := Lib.hid N4
  have B4 := Lib.hid (B3.out.trans (hb4.mono B3.out.size))
  clear N4 hb4 C4 K1 K2 K3 B3
  go_wp2_with fail
  refine (lives_any _).mono ?_
  rintro e w5 ⟨rfl, hb5⟩
  have M1 := Lib.hid (L1.out.go hb5)
  have M2 := Lib.hid (L2.out.go hb5)
  have M3 := Lib.hid (L3.out.go hb5)
  have M4 := Lib.hid (L4.out.go hb5)
  have B5 := Lib.hid (B4.out.trans (hb5.mono B4.out.size))
  clear hb5 L1 L2 L3 L4 B4
  have S1 := Lib.hid (sameN D D A1 A2 n1 c1 n2 c2 w5 M1.out M2.out true (by simp))
  have S2 := Lib.hid (sameN E E A3 A4 n3 c3 n4 c4 w5 M3.out M4.out true (by simp))
  go_wp2_with (first
    | (go_at_call 19; first | ((with_reducible refine S1.out.mono ?_); rintro e w' ⟨rfl, rfl⟩) | ((with_reducible refine S2.out.mono ?_); rintro e w' ⟨rfl, rfl⟩))
    | (go_at_call 20; refine (C5.out _).mono ?_; rintro e w' ⟨rfl, rfl⟩)
    | (go_at_call 21; refine (C6.out _).mono ?_; rintro e w' ⟨rfl, rfl⟩))
  go_ret
  exact ⟨rfl, B5.out⟩
theorem cat_l (s : ByteArray) : (⟨#[47]⟩ ++ s : ByteArray).data.toList = 47 :: s.data.toList := by
  rw [ByteArray.data_append, Array.toList_append]; rfl
theorem cat_r (s : ByteArray) : (s ++ ⟨#[47]⟩ : ByteArray).data.toList = s.data.toList ++ [47] := by
  rw [ByteArray.data_append, Array.toList_append]
theorem one_iff (s : ByteArray) : (spX (⟨#[47]⟩ ++ s) = 0 ∧ spB (⟨#[47]⟩ ++ s) = [s]) ↔ nb s = true := by
  unfold spX spB nb
  rw [cat_l, ← one_name]
  refine and_congr Iff.rfl ⟨fun h => ?_, fun h => by rw [h]; rfl⟩
  have := congrArg lsS h
  rw [lsS_of] at this
  exact this
set_option maxRecDepth 100000 in
set_option maxHeartbeats 1000000 in
theorem pathNames_walk (w : World) (s : ByteArray) (hs : s.size ≤ 140737488351232) :
    Calls Try.prog 8 #[.string s] w fun e w' => e = .returned (.bool true) ∧ Below w.heap.size w w' := by
  have hz : (⟨#[47]⟩ ++ s : ByteArray).size = 1 + s.size := by rw [ByteArray.size_append]; rfl
  obtain ⟨x, hx⟩ : ∃ x, spX (⟨#[47]⟩ ++ s) = x := ⟨_, rfl⟩
  obtain ⟨D, hD⟩ : ∃ D, spB (⟨#[47]⟩ ++ s) = D := ⟨_, rfl⟩
  obtain ⟨q, hq⟩ : ∃ q, nb s = q := ⟨_, rfl⟩
  have hone := one_iff s
  rw [hx, hD, hq] at hone
  have C1 := Lib.hid (splitN (⟨#[47]⟩ ++ s) (by rw [hz]; unfold maxLen; omega) x D hx hD)
  have C5 := Lib.hid (nameQ s q hq)
  have C6 := Lib.hid (nameQ (s ++ ⟨#[47]⟩) false (by unfold nb; rw [cat_r]; exact nm_slash_end _))
  have C7 := Lib.hid (nameQ (⟨#[47]⟩ ++ s) false (by unfold nb; rw [cat_l]; exact nm_slash_head _))
  have HO := Lib.hid hone
  clear hz hx hD hq hone
  go_enter Try.func8, Try.ntmps8
  go_wp2_with fail
  refine (lives_any _).mono ?_
  rintro e w0 ⟨rfl, hb0⟩
  have B0 := Lib.hid hb0
  clear hb0
  go_wp2_with fail
  refine (C1.out _).mono ?_
  rintro e w1 ⟨A1, n1, c1, rfl, N1, hb1⟩
  have H1 := Lib.hid N1
  have B1 := Lib.hid (B0.out.trans (hb1.mono B0.out.size))
  have hn := N1.1
  clear N1 hb1 C1 B0
  by_cases h0 : x = 0
  · subst h0
    by_cases h1 : D.length = 1
    · obtain ⟨y, rfl⟩ := List.length_eq_one_iff.1 h1
      obtain rfl : n1 = 1 := hn
      obtain ⟨b, o, hAe, hb, hc⟩ := one_cell H1.out.2.2.2 (i := 0) (x := y) rfl
      rw [Nat.add_zero] at hc
      subst hAe
      clear h1
      by_cases hy : y = s
      · obtain ⟨s1, s2⟩ := str_eq hy
        have hq : q = true := HO.out.1 ⟨rfl, by rw [hy]⟩
        subst hq
        clear hy HO
        go_wp2_with (go_at_call 20; first | ((with_reducible refine (C5.out _).mono ?_); rintro e w' ⟨rfl, rfl⟩) | ((with_reducible refine (C6.out _).mono ?_); rintro e w' ⟨rfl, rfl⟩) | ((with_reducible refine (C7.out _).mono ?_); rintro e w' ⟨rfl, rfl⟩))
        go_ret
        exact ⟨rfl, B1.out⟩
      · obtain ⟨s1, s2⟩ := str_ne hy
        have hq : q = false := by
          cases q with
          | false => rfl
          | true => exact absurd (by have := (HO.out.2 rfl).2; injection this) hy
        subst hq
        clear hy HO
        go_wp2_with (go_at_call 20; first | ((with_reducible refine (C5.out _).mono ?_); rintro e w' ⟨rfl, rfl⟩) | ((with_reducible refine (C6.out _).mono ?_); rintro e w' ⟨rfl, rfl⟩) | ((with_reducible refine (C7.out _).mono ?_); rintro e w' ⟨rfl, rfl⟩))
        go_ret
        exact ⟨rfl, B1.out⟩
    · have d1 : ((n1 : Int) == 1) = false := by rw [beq_eq_false_iff_ne]; omega
      have hq : q = false := by
        cases q with
        | false => rfl
        | true => exact absurd (by rw [(HO.out.2 rfl).2]; rfl) h1
      subst hq
      clear h1 HO hn
      go_wp2_with (go_at_call 20; first | ((with_reducible refine (C5.out _).mono ?_); rintro e w' ⟨rfl, rfl⟩) | ((with_reducible refine (C6.out _).mono ?_); rintro e w' ⟨rfl, rfl⟩) | ((with_reducible refine (C7.out _).mono ?_); rintro e w' ⟨rfl, rfl⟩))
      go_ret
      exact ⟨rfl, B1.out⟩
  · have d0 : (x == 0) = false := by rw [beq_eq_false_iff_ne]; exact h0
    have hq : q = false := by
      cases q with
      | false => rfl
      | true => exact absurd (HO.out.2 rfl).1 h0
    subst hq
    clear h0 HO hn
    go_wp2_with (go_at_call 20; first | ((with_reducible refine (C5.out _).mono ?_); rintro e w' ⟨rfl, rfl⟩) | ((with_reducible refine (C6.out _).mono ?_); rintro e w' ⟨rfl, rfl⟩) | ((with_reducible refine (C7.out _).mono ?_); rintro e w' ⟨rfl, rfl⟩))
    go_ret
    exact ⟨rfl, B1.out⟩
end Go.Proofs.Ytkmbophbjgfacaa.Ph
