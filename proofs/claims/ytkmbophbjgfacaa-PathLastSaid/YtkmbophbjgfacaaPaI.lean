/- The walks of the laws of package path that have lists, or two questions. -/
import Derived.Test.YtkmbophbjgfacaaPaH
namespace Go.Proofs.Ytkmbophbjgfacaa.Ph
set_option linter.unusedVariables false
set_option linter.unusedSimpArgs false
open Go.ChangeShapes Go.WideShapes Go.ChangeAt Go.RowKit
open BigFrame
open Ar
theorem unB_self (D : List ByteArray) : unB D D = true := unB_iff.2 (List.take_length ..)
theorem unB_nil (D : List ByteArray) : unB [] D = true := unB_iff.2 rfl
theorem unB_pre {D E : List ByteArray} : unB D E = true ↔ ∃ F, E = D ++ F := by
  rw [unB_iff]
  constructor
  · intro h
    refine ⟨E.drop D.length, ?_⟩
    conv => lhs; rw [← List.take_append_drop D.length E]
    rw [h]
  · rintro ⟨F, rfl⟩
    simp
theorem unB_trans {D E F : List ByteArray} (h1 : unB D E = true) (h2 : unB E F = true) : unB D F = true := by
  obtain ⟨X, rfl⟩ := unB_pre.1 h1
  obtain ⟨Y, rfl⟩ := unB_pre.1 h2
  exact unB_pre.2 ⟨X ++ Y, by rw [List.append_assoc]⟩
theorem unB_anti {D E : List ByteArray} (h1 : unB D E = true) (h2 : unB E D = true) : D = E := by
  obtain ⟨X, rfl⟩ := unB_pre.1 h1
  obtain ⟨Y, h⟩ := unB_pre.1 h2
  rw [List.append_assoc] at h
  have h' : D ++ [] = D ++ (X ++ Y) := by rw [List.append_nil]; exact h
  have := List.append_cancel_left h'
  have hx : X = [] := by
    cases X with
    | nil => rfl
    | cons a l => cases this
  rw [hx, List.append_nil]
set_option maxRecDepth 100000 in
set_option maxHeartbeats 2000000 in
theorem pathUnder_walk (w : World) (D : List ByteArray) (A : Option Addr) (n c : Nat) (E : List ByteArray) (A' : Option Addr) (m c' : Nat) (F : List ByteArray) (A'' : Option Addr) (k c'' : Nat) (hD : Nm w A n c D) (hE : Nm w A' m c' E) (hF : Nm w A'' k c'' F) :
    Calls Try.prog 7 #[.slice A n c, .slice A' m c', .slice A'' k c''] w fun e w' => e = .returned (.bool true) ∧ Below w.heap.size w w' := by
  have HD := Lib.hid hD
  have HE := Lib.hid hE
  have HF := Lib.hid hF
  clear hD hE hF
  go_enter Try.func7, Try.ntmps7
  go_wp2_with fail
  refine (lives_any _).mono ?_
  rintro e w0 ⟨rfl, hb0⟩
  have B0 := Lib.hid hb0
  have D0 := Lib.hid (HD.out.go hb0)
  have E0 := Lib.hid (HE.out.go hb0)
  have F0 := Lib.hid (HF.out.go hb0)
  clear hb0 HD HE HF
  have N0 : Hid (∀ u : World, Nm u none 0 0 []) := Lib.hid fun u => ⟨rfl, Nat.le_refl _, Nat.zero_le _, Ls.nil⟩
  go_wp2_with fail
  refine (underN D D A A n c n c w0 D0.out D0.out true (unB_self D)).mono ?_
  rintro e w' ⟨rfl, q1, rfl⟩
  go_wp2_with fail
  refine (underN [] D none A 0 0 n c _ (N0.out _) (D0.out.drewN q1) true (unB_nil D)).mono ?_
  rintro e w' ⟨rfl, q2, rfl⟩
  have B2 := Lib.hid (below_q q2 (below_q q1 B0.out))
  have D2 := Lib.hid ((D0.out.drewN q1).drewN q2)
  have E2 := Lib.hid ((E0.out.drewN q1).drewN q2)
  have F2 := Lib.hid ((F0.out.drewN q1).drewN q2)
  clear B0 D0 E0 F0
  generalize World.drewN (World.drewN w0 q1) q2 = w1 at *
  obtain ⟨x, hx⟩ : ∃ x, unB D E = x := ⟨_, rfl⟩
  obtain ⟨y, hy⟩ : ∃ x, unB E D = x := ⟨_, rfl⟩
  obtain ⟨z, hz⟩ : ∃ x, unB E F = x := ⟨_, rfl⟩
  obtain ⟨v, hv⟩ : ∃ x, unB D F = x := ⟨_, rfl⟩
  have HX := Lib.hid hx
  have HY := Lib.hid hy
  have HZ := Lib.hid hz
  have HV := Lib.hid hv
  clear hx hy hz hv
  have CX := Lib.hid (fun w hd he => underN D E A A' n c m c' w hd he x HX.out)
  have CY := Lib.hid (fun w hd he => underN E D A' A m c' n c w hd he y HY.out)
  have CZ := Lib.hid (fun w hd he => underN E F A' A'' m c' k c'' w hd he z HZ.out)
  have CV := Lib.hid (fun w hd he => underN D F A A'' n c k c'' w hd he v HV.out)
  go_wp2_with fail
  refine (CX.out _ D2.out E2.out).mono ?_
  rintro e w' ⟨rfl, q3, rfl⟩
  have B3 := Lib.hid (below_q q3 B2.out)
  have D3 := Lib.hid (D2.out.drewN q3)
  have E3 := Lib.hid (E2.out.drewN q3)
  have F3 := Lib.hid (F2.out.drewN q3)
  clear B2 D2 E2 F2
  generalize World.drewN w1 q3 = w2 at *
  cases x
  · go_wp2_with (go_at_call 24; refine (CX.out _ D3.out E3.out).mono ?_; rintro e w' ⟨rfl, q5, rfl⟩)
    go_ret
    exact ⟨rfl, below_q _ B3.out⟩
  · go_wp2_with fail
    refine (CY.out _ E3.out D3.out).mono ?_
    rintro e w' ⟨rfl, q4, rfl⟩
    have B4 := Lib.hid (below_q q4 B3.out)
    have D4 := Lib.hid (D3.out.drewN q4)
    have E4 := Lib.hid (E3.out.drewN q4)
    have F4 := Lib.hid (F3.out.drewN q4)
    clear B3 D3 E3 F3
    generalize World.drewN w2 q4 = w3 at *
    have tail : Hid (v = true ∨ z = false) := Lib.hid (by
      cases z with
      | false => exact .inr rfl
      | true => exact .inl (HV.out.symm.trans (unB_trans HX.out HZ.out)))
    have sm : Hid (y = true → decide (D = E) = true) := Lib.hid (fun h => by subst h; exact decide_eq_true (unB_anti HX.out HY.out))
    cases y
    · go_wp2_with fail
      refine (CX.out _ D4.out E4.out).mono ?_
      rintro e w' ⟨rfl, q5, rfl⟩
      go_wp2_with fail
      refine (CZ.out _ (E4.out.drewN _) (F4.out.drewN _)).mono ?_
      rintro e w' ⟨rfl, q6, rfl⟩
      cases z
      · go_wp2_with fail
        go_ret
        exact ⟨rfl, below_q _ B4.out⟩
      · obtain rfl : v = true := tail.out.resolve_right (by decide)
        go_wp2_with fail
        refine (CV.out _ (D4.out.drewN _) (F4.out.drewN _)).mono ?_
        rintro e w' ⟨rfl, q7, rfl⟩
        go_wp2_with fail
        go_ret
        exact ⟨rfl, below_q _ B4.out⟩
    · have CS := Lib.hid (sameN D E A A' n c m c' w3 D4.out E4.out true (sm.out rfl))
      go_wp2_with fail
      refine CS.out.mono ?_
      rintro e w' ⟨rfl, rfl⟩
      go_wp2_with fail
      refine (CX.out _ D4.out E4.out).mono ?_
      rintro e w' ⟨rfl, q5, rfl⟩
      go_wp2_with fail
      refine (CZ.out _ (E4.out.drewN _) (F4.out.drewN _)).mono ?_
      rintro e w' ⟨rfl, q6, rfl⟩
      cases z
      · go_wp2_with fail
        go_ret
        exact ⟨rfl, below_q _ B4.out⟩
      · obtain rfl : v = true := tail.out.resolve_right (by decide)
        go_wp2_with fail
        refine (CV.out _ (D4.out.drewN _) (F4.out.drewN _)).mono ?_
        rintro e w' ⟨rfl, q7, rfl⟩
        go_wp2_with fail
        go_ret
        exact ⟨rfl, below_q _ B4.out⟩
end Go.Proofs.Ytkmbophbjgfacaa.Ph
