/- The walk of the law PathLast: a path is the path of the names ahead of its last one, a slash, and that. -/
import Derived.Test.YtkmbophbjgfacaaPaJ
namespace Go.Proofs.Ytkmbophbjgfacaa.Ph
set_option linter.unusedVariables false
set_option linter.unusedSimpArgs false
open Go.ChangeShapes Go.WideShapes Go.ChangeAt Go.RowKit
open BigFrame
open Ar
theorem mk_empty {α : Type} {enc : α → List Value} {k : Nat} {e : TypeId} {w wr : World} (hb : Below w.heap.size w wr) : Mk enc k e w (wr.alloc (.cells #[] e)) (.slice (some ⟨wr.heap.size, 0, none⟩) 0 0) [] :=
  ⟨World.ownsRow_made wr #[] 0 hb.size (Nat.zero_le _) (by simp), hb.alloc hb.size _⟩
theorem la_join {p : ByteArray} (h : spX p = 0) (h2 : spB p ≠ []) : laD p ++ [laN p] = spB p ∧ nb (laN p) = true ∧ unB (laD p) (spB p) = true ∧ (spB p).length = (laD p).length + 1 := by
  obtain ⟨_, e2, e3⟩ := la_ok h h2
  have hl : 0 < (spB p).length := by cases hh : spB p with | nil => exact absurd hh h2 | cons a l => simp
  obtain ⟨h4, h5⟩ := List.getElem?_eq_some_iff.1 e3
  have e1 : laD p ++ [laN p] = spB p := by
    rw [e2, ← h5, ← List.take_succ_eq_append_getElem h4, List.take_of_length_le (by omega)]
  have hall : (spB p).all nb = true := by
    unfold spB
    rw [map_all]
    exact (sp_ok h).2.1
  refine ⟨e1, ?_, ?_, ?_⟩
  · rw [← e1, List.all_append, Bool.and_eq_true] at hall
    simpa using hall.2
  · exact unB_pre.2 ⟨[laN p], e1.symm⟩
  · rw [← e1]; simp
set_option maxRecDepth 100000 in
set_option maxHeartbeats 2000000 in
theorem pathLast_walk (w : World) (p : ByteArray) (hp : p.size ≤ maxLen) :
    Calls Try.prog 6 #[.string p] w fun e w' => e = .returned (.bool true) ∧ Below w.heap.size w w' := by
  obtain ⟨x, hx⟩ : ∃ x, spX p = x := ⟨_, rfl⟩
  obtain ⟨D, hD⟩ : ∃ D, spB p = D := ⟨_, rfl⟩
  obtain ⟨y, hy⟩ : ∃ x, laX p = x := ⟨_, rfl⟩
  obtain ⟨E, hE⟩ : ∃ D, laD p = D := ⟨_, rfl⟩
  obtain ⟨t, ht⟩ : ∃ D, laN p = D := ⟨_, rfl⟩
  have C1 := Lib.hid (splitN p hp x D hx hD)
  have C3 := Lib.hid (lastN p hp y t E hy ht hE)
  have HE : Hid (x ≠ 0 → y = x ∧ E = [] ∧ t = ByteArray.empty) := Lib.hid (fun h => by
    have := la_err (p := p) (hx ▸ h)
    rw [hy, hE, ht, hx] at this
    exact this)
  have HN : Hid (x = 0 → D = [] → y = 10 ∧ E = [] ∧ t = ByteArray.empty) := Lib.hid (fun h h2 => by
    have := la_none (p := p) (hx.trans h) (hD.trans h2)
    rw [hy, hE, ht] at this
    exact this)
  have HO : Hid (x = 0 → D ≠ [] → y = 0 ∧ (E ++ [t] = D ∧ nb t = true ∧ unB E D = true ∧ D.length = E.length + 1) ∧ jnB D = p ∧ jnX D = 0) := Lib.hid (fun h h2 => by
    have h3 := la_ok (p := p) (hx.trans h) (by rw [hD]; exact h2)
    have h4 := la_join (p := p) (hx.trans h) (by rw [hD]; exact h2)
    have h5 := jn_back (p := p) (hx.trans h)
    rw [hy] at h3
    rw [hE, ht, hD] at h4
    rw [hD] at h5
    exact ⟨h3.1, h4, h5⟩)
  have hDl : D.length ≤ 256 := by rw [← hD]; exact spB_len p
  have q1 := str_same p
  clear hx hD hy hE ht
  unfold maxLen at hp
  go_enter Try.func6, Try.ntmps6
  go_wp2_with fail
  refine (lives_any _).mono ?_
  rintro e w0 ⟨rfl, hb0⟩
  have B0 := Lib.hid hb0
  clear hb0
  go_wp2_with fail
  refine (C1.out _).mono ?_
  rintro e w1 ⟨A1, n1, c1, rfl, N1, hb1⟩
  have D1 := Lib.hid N1
  have B1 := Lib.hid (B0.out.trans (hb1.mono B0.out.size))
  clear N1 hb1 B0 C1
  go_wp2_with fail
  refine (C3.out _).mono ?_
  rintro e w2 ⟨A2, n2, c2, rfl, N2, hb2⟩
  have D2 := Lib.hid (D1.out.go hb2)
  have E2 := Lib.hid N2
  have B2 := Lib.hid (B1.out.trans (hb2.mono B1.out.size))
  clear N2 hb2 B1 C3 D1
  by_cases h0 : x = 0
  · by_cases hnil : D = []
    · obtain ⟨rfl, rfl, rfl⟩ := HN.out h0 hnil
      subst h0 hnil
      obtain rfl : n1 = 0 := D2.out.1
      obtain rfl : n2 = 0 := E2.out.1
      clear HO HN HE hDl
      go_wp2
      go_ret
      exact ⟨rfl, B2.out⟩
    · obtain ⟨rfl, ⟨e1, e2, e3, e4⟩, e5, e6⟩ := HO.out h0 hnil
      have hn1 : n1 = n2 + 1 := by rw [D2.out.1, E2.out.1, e4]
      have hn2 : n2 ≤ 256 := by rw [E2.out.1]; omega
      subst hn1
      have d1 : ((n2 : Int) + 1 == 0) = false := by rw [beq_eq_false_iff_ne]; omega
      have d2 : ((n2 : Int) + 1 - (n2 : Int) == 1) = true := by rw [beq_iff_eq]; omega
      have CU := Lib.hid (fun w hd he => underN E D A2 A1 n2 c2 (n2 + 1) c1 w hd he true e3)
      have CN := Lib.hid (nameQ t true e2)
      have HJ := Lib.hid (And.intro e1 (And.intro e5 e6))
      have HM0 := Lib.hid (mk_empty (enc := en1) (k := 1) (e := 9) (Below.refl w2.heap.size w2))
      have hEl : Hid (n2 = E.length) := Lib.hid E2.out.1
      have HLE := Lib.hid (E2.out.2.2.2.below ((Below.refl w2.heap.size w2).alloc (Nat.le_refl _) (.cells #[] 9)))
      have hE0 : E.length ≤ 256 := by rw [← E2.out.1]; exact hn2
      subst h0
      clear e1 e2 e3 e4 e5 e6 HO HN HE hnil hDl
      go_wp2_with (first
        | (at_builtin; refine catS HM0.out E A2 n2 c2 hEl.out HLE.out (by simp; omega) rfl _ _ rfl rfl rfl ?_; intro v3 w3 hM hG; have HM3 := Lib.hid hM; clear hM hG)
        | (at_builtin; refine catS (HM3.out.alloc _) [t] _ 1 1 rfl (Ls.new _ _ _ _ (Nat.lt_succ_self _)) (by simp; omega) rfl _ _ rfl rfl rfl ?_; intro v4 w4 hM hG; have HM4 := Lib.hid hM; clear hM hG))
      obtain ⟨A4, c4, hv, hc1, hc2, hL4⟩ := (show MkS w2 w4 v4 (E ++ [t]) from HM4.out).ls en1_len
      have hl4 : (E ++ [t]).length = n2 + 1 := by rw [List.length_append, ← hEl.out]; rfl
      have hL4 := Lib.hid hL4
      rw [hl4] at hv hc1
      subst hv
      have N4 : Nm w4 A4 (n2 + 1) c4 D := ⟨by rw [← hl4, HJ.out.1], hc1, hc2, by rw [← HJ.out.1]; exact hL4.out⟩
      have J4 := Lib.hid (joinN D A4 (n2 + 1) c4 (by omega) w4 N4 p 0 HJ.out.2.1 HJ.out.2.2)
      have D4 := Lib.hid (D2.out.go HM4.out.2)
      have E4 := Lib.hid (E2.out.go HM4.out.2)
      have B4 := Lib.hid (B2.out.trans (HM4.out.2.mono B2.out.size))
      clear N4 hl4 hc1 hc2 hL4 D2 E2 B2 HM0 HM3 HLE hE0
      refine J4.out.mono ?_
      rintro e w5 ⟨rfl, hb5⟩
      have D5 := Lib.hid (D4.out.go hb5)
      have E5 := Lib.hid (E4.out.go hb5)
      have B5 := Lib.hid (B4.out.trans (hb5.mono B4.out.size))
      clear D4 E4 B4 hb5 HM4
      go_wp2_with (first
        | (go_at_call 20; refine (CN.out _).mono ?_; rintro e w' ⟨rfl, rfl⟩)
        | (go_at_call 24; with_reducible refine (CU.out _ E5.out D5.out).mono ?_; rintro e w' ⟨rfl, k, rfl⟩))
      go_ret
      exact ⟨rfl, below_q _ B5.out⟩
  · obtain ⟨rfl, rfl, rfl⟩ := HE.out h0
    have d1 : (y == 0) = false := by rw [beq_eq_false_iff_ne]; exact h0
    have d2 : (y != 0) = true := by rw [bne, d1]; rfl
    obtain rfl : n2 = 0 := E2.out.1
    clear h0 HO HN HE
    go_wp2
    go_ret
    exact ⟨rfl, B2.out⟩
end Go.Proofs.Ytkmbophbjgfacaa.Ph
