/- The walks of the laws of package path in which names are put together. -/
import Derived.Test.YtkmbophbjgfacaaPaI
namespace Go.Proofs.Ytkmbophbjgfacaa.Ph
set_option linter.unusedVariables false
set_option linter.unusedSimpArgs false
open Go.ChangeShapes Go.WideShapes Go.ChangeAt Go.RowKit
open BigFrame
open Ar
theorem refJoinN (D : List ByteArray) (A : Option Addr) (n c : Nat) (hm : n ≤ 1099511627776) (hs : ∀ s ∈ D, s.size ≤ maxLen) (w : World) (h : Nm w A n c D) (s : ByteArray) (x : Int) (hq : jnB D = s) (hx : jnX D = x) :
    Calls Try.prog 23 #[.slice A n c] w fun e w' => e = .returned (.tuple #[.string s, .int .i64 x]) ∧ w = w' := by
  subst hq hx
  exact refJoin_any D A n c _ h.1 h.2.1 hm hs w (Nat.le_refl _) h.2.2.2
theorem refUnderN (D E : List ByteArray) (A A' : Option Addr) (n c m c' : Nat) (w : World) (hD : Nm w A n c D) (hE : Nm w A' m c' E) (q : Bool) (hq : unB D E = q) :
    Calls Try.prog 25 #[.slice A n c, .slice A' m c'] w fun e w' => e = .returned (.bool q) ∧ w = w' := by
  subst hq
  exact refUnder_any D E A A' n c m c' _ _ hD.1 hE.1 hD.2.1 hE.2.1 hD.2.2.1 hE.2.2.1 w (Nat.le_refl _) (Nat.le_refl _) hD.2.2.2 hE.2.2.2
set_option maxRecDepth 100000 in
set_option maxHeartbeats 1000000 in
theorem pathJoins_walk (w : World) (D : List ByteArray) (A : Option Addr) (n c : Nat) (E : List ByteArray) (A' : Option Addr) (m c' : Nat) (hm : n ≤ 1099511627776) (hs : ∀ s ∈ D, s.size ≤ maxLen) (hD : Nm w A n c D) (hE : Nm w A' m c' E) :
    Calls Try.prog 4 #[.slice A n c, .slice A' m c'] w fun e w' => e = .returned (.bool true) ∧ Below w.heap.size w w' := by
  obtain ⟨s, hs1⟩ : ∃ s, jnB D = s := ⟨_, rfl⟩
  obtain ⟨x, hx1⟩ : ∃ s, jnX D = s := ⟨_, rfl⟩
  obtain ⟨q, hq1⟩ : ∃ s, unB D E = s := ⟨_, rfl⟩
  have HD := Lib.hid hD
  have HE := Lib.hid hE
  have C1 := Lib.hid (fun w h => joinN D A n c hm w h s x hs1 hx1)
  have C2 := Lib.hid (fun w h => refJoinN D A n c hm hs w h s x hs1 hx1)
  have C3 := Lib.hid (fun w hd he => underN D E A A' n c m c' w hd he q hq1)
  have C4 := Lib.hid (fun w hd he => refUnderN D E A A' n c m c' w hd he q hq1)
  have q1 := str_same s
  have q2 := bool_same q
  clear hs hD hE hs1 hx1 hq1
  go_enter Try.func4, Try.ntmps4
  go_wp2_with fail
  refine (C1.out _ HD.out).mono ?_
  rintro e w1 ⟨rfl, hb1⟩
  have D1 := Lib.hid (HD.out.go hb1)
  have E1 := Lib.hid (HE.out.go hb1)
  have B1 := Lib.hid hb1
  clear HD HE hb1
  go_wp2_with fail
  refine (C2.out _ D1.out).mono ?_
  rintro e w' ⟨rfl, rfl⟩
  go_wp2_with fail
  refine (lives_any _).mono ?_
  rintro e w2 ⟨rfl, hb2⟩
  have D2 := Lib.hid (D1.out.go hb2)
  have E2 := Lib.hid (E1.out.go hb2)
  have B2 := Lib.hid (B1.out.trans (hb2.mono B1.out.size))
  clear D1 E1 B1 hb2
  go_wp2_with (first
    | (go_at_call 24; refine (C3.out _ D2.out E2.out).mono ?_; rintro e w' ⟨rfl, k, rfl⟩)
    | (go_at_call 25; refine (C4.out _ (D2.out.drewN _) (E2.out.drewN _)).mono ?_; rintro e w' ⟨rfl, rfl⟩))
  go_ret
  exact ⟨rfl, below_q _ B2.out⟩
theorem jn_back {p : ByteArray} (h : spX p = 0) : jnB (spB p) = p ∧ jnX (spB p) = 0 := by
  unfold jnB jnX spB
  rw [lsS_of]
  have := jn_sp h
  rw [this.1]
  exact ⟨rfl, this.2⟩
theorem sp_back {D : List ByteArray} (h : jnX D = 0) : spB (jnB D) = D ∧ spX (jnB D) = 0 := by
  have := sp_jn h
  unfold spB spX jnB
  rw [bsL_list, this.1]
  exact ⟨lsS_back D, this.2⟩
theorem jnB_size (D : List ByteArray) : (jnB D).size ≤ 256 := by
  have e : (jnB D).size = (jnP (lsS D)).length := by show (List.toArray _).size = _; rw [List.size_toArray]
  rw [e]
  by_cases h : jnE (lsS D) = 0
  · have := jn_ok h
    rw [this.2.2]; exact this.2.1
  · rw [jn_err h]; simp
theorem spB_len (p : ByteArray) : (spB p).length ≤ 256 := by
  unfold spB
  rw [List.length_map]
  exact spN_len _
set_option maxRecDepth 100000 in
set_option maxHeartbeats 1000000 in
theorem pathBack_walk (w : World) (p : ByteArray) (D : List ByteArray) (A : Option Addr) (n c : Nat) (hp : p.size ≤ maxLen) (hm : n ≤ 1099511627776) (hD : Nm w A n c D) :
    Calls Try.prog 5 #[.string p, .slice A n c] w fun e w' => e = .returned (.bool true) ∧ Below w.heap.size w w' := by
  obtain ⟨y, hy⟩ : ∃ s, spX p = s := ⟨_, rfl⟩
  obtain ⟨E, hE⟩ : ∃ s, spB p = s := ⟨_, rfl⟩
  obtain ⟨s, hs1⟩ : ∃ s, jnB D = s := ⟨_, rfl⟩
  obtain ⟨x, hx1⟩ : ∃ s, jnX D = s := ⟨_, rfl⟩
  obtain ⟨F, hF⟩ : ∃ t, spB s = t := ⟨_, rfl⟩
  obtain ⟨z, hz⟩ : ∃ t, spX s = t := ⟨_, rfl⟩
  have hsz : s.size ≤ 256 := by rw [← hs1]; exact jnB_size D
  have HD := Lib.hid hD
  have C1 := Lib.hid (splitN p hp y E hy hE)
  have C2 := Lib.hid (fun w h => joinN D A n c hm w h s x hs1 hx1)
  have C3 := Lib.hid (splitN s (by unfold maxLen; omega) z F hz hF)
  have HEL : E.length ≤ 256 := by rw [← hE]; exact spB_len p
  have HB : Hid (y = 0 → jnB E = p ∧ jnX E = 0) := Lib.hid (fun h => by rw [← hE]; exact jn_back (hy.trans h))
  have HS : Hid (x = 0 → F = D ∧ z = 0) := Lib.hid (fun h => by rw [← hF, ← hz, ← hs1]; exact sp_back (hx1.trans h))
  have HS2 : Hid (x ≠ 0 → s = ByteArray.empty) := Lib.hid (fun h => by
    rw [← hs1]
    unfold jnB
    rw [jn_err (by intro e; exact h (hx1.symm.trans e))]; rfl)
  have q1 := str_same p
  have q1' : (p.toList != p.toList) = false := by rw [bne, q1]; rfl
  clear hs1 hx1 hy hE hF hz hD
  unfold maxLen at hp
  go_enter Try.func5, Try.ntmps5
  go_wp2_with fail
  refine (lives_any _).mono ?_
  rintro e w0 ⟨rfl, hb0⟩
  have B0 := Lib.hid hb0
  have D0 := Lib.hid (HD.out.go hb0)
  clear hb0 HD
  go_wp2_with fail
  refine (C1.out _).mono ?_
  rintro e w1 ⟨A1, n1, c1, rfl, N1, hb1⟩
  have D1 := Lib.hid (D0.out.go hb1)
  have E1 := Lib.hid N1
  have hn1 : n1 ≤ 256 := by rw [N1.1]; exact HEL
  have B1 := Lib.hid (B0.out.trans (hb1.mono B0.out.size))
  clear N1 hb1 D0 B0 C1 HEL
  by_cases hx : x = 0
  · obtain ⟨rfl, rfl⟩ := HS.out hx
    subst hx
    clear HS HS2
    by_cases hy : y = 0
    · obtain ⟨b1, b2⟩ := HB.out hy
      have C4 := Lib.hid (fun w h => joinN E A1 n1 c1 (by omega) w h p 0 b1 b2)
      subst hy
      clear b1 b2 HB
      go_wp2_with fail
      refine (C4.out _ E1.out).mono ?_
      rintro e w2 ⟨rfl, hb2⟩
      have D2 := Lib.hid (D1.out.go hb2)
      have B2 := Lib.hid (B1.out.trans (hb2.mono B1.out.size))
      clear hb2 D1 B1
      go_wp2_with fail
      refine (C2.out _ D2.out).mono ?_
      rintro e w3 ⟨rfl, hb3⟩
      have D3 := Lib.hid (D2.out.go hb3)
      have B3 := Lib.hid (B2.out.trans (hb3.mono B2.out.size))
      clear hb3 D2 B2
      go_wp2_with fail
      refine (C3.out _).mono ?_
      rintro e w4 ⟨A4, n4, c4, rfl, N4, hb4⟩
      have D4 := Lib.hid (D3.out.go hb4)
      have B4 := Lib.hid (B3.out.trans (hb4.mono B3.out.size))
      have S4 := Lib.hid (sameN F F A4 A n4 c4 n c w4 N4 D4.out true (by simp))
      clear hb4 D3 B3
      go_wp2_with (go_at_call 19; refine S4.out.mono ?_; rintro e w' ⟨rfl, rfl⟩)
      go_ret
      exact ⟨rfl, B4.out⟩
    · have d1 : (y == 0) = false := by rw [beq_eq_false_iff_ne]; exact hy
      clear hy HB
      go_wp2_with fail
      refine (C2.out _ D1.out).mono ?_
      rintro e w3 ⟨rfl, hb3⟩
      have D3 := Lib.hid (D1.out.go hb3)
      have B3 := Lib.hid (B1.out.trans (hb3.mono B1.out.size))
      clear hb3 D1 B1
      go_wp2_with fail
      refine (C3.out _).mono ?_
      rintro e w4 ⟨A4, n4, c4, rfl, N4, hb4⟩
      have D4 := Lib.hid (D3.out.go hb4)
      have B4 := Lib.hid (B3.out.trans (hb4.mono B3.out.size))
      have S4 := Lib.hid (sameN F F A4 A n4 c4 n c w4 N4 D4.out true (by simp))
      clear hb4 D3 B3
      go_wp2_with (go_at_call 19; refine S4.out.mono ?_; rintro e w' ⟨rfl, rfl⟩)
      go_ret
      exact ⟨rfl, B4.out⟩
  · have k1 : (x == 0) = false := by rw [beq_eq_false_iff_ne]; exact hx
    have k2 : (x != 0) = true := by rw [bne, k1]; rfl
    have hse := HS2.out hx
    have k3 : s.toList.isEmpty = true := by rw [hse, tl]; rfl
    have k4 : s.toList = [] := by rw [hse, tl]; rfl
    clear hse hx HS HS2
    by_cases hy : y = 0
    · obtain ⟨b1, b2⟩ := HB.out hy
      have C4 := Lib.hid (fun w h => joinN E A1 n1 c1 (by omega) w h p 0 b1 b2)
      subst hy
      clear b1 b2 HB
      go_wp2_with fail
      refine (C4.out _ E1.out).mono ?_
      rintro e w2 ⟨rfl, hb2⟩
      have D2 := Lib.hid (D1.out.go hb2)
      have B2 := Lib.hid (B1.out.trans (hb2.mono B1.out.size))
      clear hb2 D1 B1
      go_wp2_with fail
      refine (C2.out _ D2.out).mono ?_
      rintro e w3 ⟨rfl, hb3⟩
      have B3 := Lib.hid (B2.out.trans (hb3.mono B2.out.size))
      clear hb3 D2 B2
      go_wp2_with fail
      refine (C3.out _).mono ?_
      rintro e w4 ⟨A4, n4, c4, rfl, N4, hb4⟩
      have B4 := Lib.hid (B3.out.trans (hb4.mono B3.out.size))
      clear hb4 B3 N4
      go_wp2
      go_ret
      exact ⟨rfl, B4.out⟩
    · have d1 : (y == 0) = false := by rw [beq_eq_false_iff_ne]; exact hy
      clear hy HB
      go_wp2_with fail
      refine (C2.out _ D1.out).mono ?_
      rintro e w3 ⟨rfl, hb3⟩
      have B3 := Lib.hid (B1.out.trans (hb3.mono B1.out.size))
      clear hb3 D1 B1
      go_wp2_with fail
      refine (C3.out _).mono ?_
      rintro e w4 ⟨A4, n4, c4, rfl, N4, hb4⟩
      have B4 := Lib.hid (B3.out.trans (hb4.mono B3.out.size))
      clear hb4 B3 N4
      go_wp2
      go_ret
      exact ⟨rfl, B4.out⟩
end Go.Proofs.Ytkmbophbjgfacaa.Ph
