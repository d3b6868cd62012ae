/- The laws' own question of package path, and what calls answer in one form. -/
import Derived.Test.YtkmbophbjgfacaaPaF
namespace Go.Proofs.Ytkmbophbjgfacaa.Ph
set_option linter.unusedVariables false
open Go.ChangeShapes Go.WideShapes Go.ChangeAt Go.RowKit
open BigFrame
open Ar
/-- a list of names that is some call's answer -/
def Nm (w : World) (A : Option Addr) (n c : Nat) (D : List ByteArray) : Prop := n = D.length ∧ n ≤ c ∧ c ≤ maxLen ∧ Ls en1 1 w w.heap.size A D
theorem Nm.go {w w' : World} {A : Option Addr} {n c : Nat} {D : List ByteArray} (h : Nm w A n c D) (hb : Below w.heap.size w w') : Nm w' A n c D :=
  ⟨h.1, h.2.1, h.2.2.1, (h.2.2.2.below hb).more hb.size⟩
theorem Nm.drewN {w : World} {A : Option Addr} {n c : Nat} {D : List ByteArray} (h : Nm w A n c D) (q : Nat) : Nm (w.drewN q) A n c D := ⟨h.1, h.2.1, h.2.2.1, ls_q q h.2.2.2⟩
def SpPost (w : World) (x : Int) (D : List ByteArray) (e : Ending) (w' : World) : Prop := ∃ A n c, e = .returned (.tuple #[.slice A n c, .int .i64 x]) ∧ Nm w' A n c D ∧ Below w.heap.size w w'
theorem SpPost.of {w : World} {p : ByteArray} {e : Ending} {w' : World} (h : SplitPost w p e w') : SpPost w (spX p) (spB p) e w' := by
  obtain ⟨v, rfl, hM⟩ := h
  obtain ⟨A, c, rfl, h1, h2, h3⟩ := hM.ls en1_len
  exact ⟨A, _, c, rfl, ⟨rfl, h1, h2, h3⟩, hM.2⟩
theorem splitN (p : ByteArray) (hp : p.size ≤ maxLen) (x : Int) (D : List ByteArray) (hx : spX p = x) (hD : spB p = D) (w : World) : Calls Try.prog 14 #[.string p] w (SpPost w x D) := by
  subst hx hD
  exact (split_any p hp w).mono fun e w' h => SpPost.of h
theorem refSplitN (p : ByteArray) (hp : p.size ≤ maxLen) (x : Int) (D : List ByteArray) (hx : spX p = x) (hD : spB p = D) (w : World) : Calls Try.prog 15 #[.string p] w (SpPost w x D) := by
  subst hx hD
  exact (refSplit_any p hp w).mono fun e w' h => SpPost.of h
def LaPost (w : World) (x : Int) (s : ByteArray) (D : List ByteArray) (e : Ending) (w' : World) : Prop := ∃ A n c, e = .returned (.tuple #[.slice A n c, .string s, .int .i64 x]) ∧ Nm w' A n c D ∧ Below w.heap.size w w'
theorem lastN (p : ByteArray) (hp : p.size ≤ maxLen) (x : Int) (s : ByteArray) (D : List ByteArray) (hx : laX p = x) (hs : laN p = s) (hD : laD p = D) (w : World) : Calls Try.prog 16 #[.string p] w (LaPost w x s D) := by
  subst hx hD hs
  exact (last_any p hp w).mono fun e w' ⟨A, n, c, h1, h2, h3, h4, h5, h6⟩ => ⟨A, n, c, h1, ⟨h2, h3, h4, h5⟩, h6⟩
theorem refLastN (p : ByteArray) (hp : p.size ≤ maxLen) (x : Int) (s : ByteArray) (D : List ByteArray) (hx : laX p = x) (hs : laN p = s) (hD : laD p = D) (w : World) : Calls Try.prog 17 #[.string p] w (LaPost w x s D) := by
  subst hx hD hs
  exact (refLast_any p hp w).mono fun e w' ⟨A, n, c, h1, h2, h3, h4, h5, h6⟩ => ⟨A, n, c, h1, ⟨h2, h3, h4, h5⟩, h6⟩
theorem joinN (D : List ByteArray) (A : Option Addr) (n c : Nat) (hm : n ≤ 1099511627776) (w : World) (h : Nm w A n c D) (s : ByteArray) (x : Int) (hs : jnB D = s) (hx : jnX D = x) :
    Calls Try.prog 22 #[.slice A n c] w fun e w' => e = .returned (.tuple #[.string s, .int .i64 x]) ∧ Below w.heap.size w w' := by
  subst hs hx
  exact join_any D A n c _ h.1 h.2.1 hm w (Nat.le_refl _) h.2.2.2
theorem nameQ (s : ByteArray) (q : Bool) (hq : nb s = q) (w : World) : Calls Try.prog 20 #[.string s] w fun e w' => e = .returned (.bool q) ∧ w = w' := by
  subst hq
  exact name_any s w (contains_any s)
theorem underN (D E : List ByteArray) (A A' : Option Addr) (n c m c' : Nat) (w : World) (hD : Nm w A n c D) (hE : Nm w A' m c' E) (q : Bool) (hq : unB D E = q) :
    Calls Try.prog 24 #[.slice A n c, .slice A' m c'] w fun e w' => e = .returned (.bool q) ∧ ∃ k, w' = w.drewN k := by
  subst hq
  exact under_any D E A A' n c m c' _ _ hD.1 hE.1 hD.2.1 hE.2.1 hD.2.2.1 hE.2.2.1 w hD.2.2.2 hE.2.2.2
theorem sameN (D E : List ByteArray) (A A' : Option Addr) (n c m c' : Nat) (w : World) (hD : Nm w A n c D) (hE : Nm w A' m c' E) (q : Bool) (hq : decide (D = E) = q) :
    Calls Try.prog 19 #[.slice A n c, .slice A' m c'] w fun e w' => e = .returned (.bool q) ∧ w = w' := by
  subst hq
  exact refSame_any D E A A' n c m c' _ _ hD.1 hE.1 hD.2.1 hE.2.1 hD.2.2.1 hE.2.2.1 w (Nat.le_refl _) (Nat.le_refl _) hD.2.2.2 hE.2.2.2
def bA : ByteArray := ⟨#[97]⟩
def bB : ByteArray := ⟨#[98]⟩
def pAB : ByteArray := ⟨#[47, 97, 47, 98]⟩
theorem two_names (w : World) (e : TypeId) : Ls en1 1 (w.alloc (.cells #[.string bA, .string bB] e)) (w.heap.size + 1) (some ⟨w.heap.size, 0, none⟩) [bA, bB] :=
  Ls.made en1_len w [bA, bB] e _ (Nat.lt_succ_self _)
set_option maxRecDepth 100000 in
set_option maxHeartbeats 1000000 in
theorem lives_any (w : World) : Calls Try.prog 18 #[] w fun e w' => e = .returned (.bool true) ∧ Below w.heap.size w w' := by
  have sm : ∀ l : Array UInt8, l.size ≤ 4 → (⟨l⟩ : ByteArray).size ≤ maxLen := fun l h => by unfold maxLen; show l.size ≤ _; omega
  have C1 := Lib.hid (splitN ⟨#[47, 97, 47, 98]⟩ (sm _ (by decide)) 0 [bA, bB] rfl rfl)
  have C2 := Lib.hid (splitN ⟨#[47, 97, 47]⟩ (sm _ (by decide)) 10 [] rfl rfl)
  have C3 := Lib.hid (splitN ⟨#[47]⟩ (sm _ (by decide)) 0 [] rfl rfl)
  have C5 := Lib.hid (lastN ⟨#[47, 97, 47, 98]⟩ (sm _ (by decide)) 0 bB [bA] rfl rfl rfl)
  have C6 := Lib.hid (nameQ ⟨#[97]⟩ true rfl)
  have C7 := Lib.hid (nameQ ⟨#[46, 46]⟩ false rfl)
  clear sm
  go_enter Try.func18, Try.ntmps18
  go_wp2_with fail
  refine (C1.out _).mono ?_
  rintro e w1 ⟨A1, n1, c1, rfl, N1, hb1⟩
  obtain rfl : n1 = 2 := N1.1
  have H1 := Lib.hid N1
  have B1 := Lib.hid hb1
  clear N1 hb1 C1
  go_wp2_with fail
  refine (C2.out _).mono ?_
  rintro e w2 ⟨A2, n2, c2, rfl, N2, hb2⟩
  obtain rfl : n2 = 0 := N2.1
  have H2 := Lib.hid (H1.out.go hb2)
  have B2 := Lib.hid (B1.out.trans (hb2.mono B1.out.size))
  clear N2 hb2 C2 H1 B1
  go_wp2_with fail
  refine (C3.out _).mono ?_
  rintro e w3 ⟨A3, n3, c3, rfl, N3, hb3⟩
  obtain rfl : n3 = 0 := N3.1
  have H3 := Lib.hid (H2.out.go hb3)
  have B3 := Lib.hid (B2.out.trans (hb3.mono B2.out.size))
  clear N3 hb3 C3 H2 B2
  have HT := Lib.hid (two_names w3 9)
  have B4 := Lib.hid ((Below.refl w3.heap.size w3).alloc (Nat.le_refl _) (.cells #[.string bA, .string bB] 9))
  have hz4 : (w3.alloc (.cells #[.string bA, .string bB] 9)).heap.size = w3.heap.size + 1 := by simp
  have HZ := Lib.hid hz4
  clear hz4
  go_wp2_with fail
  change Calls _ _ _ (w3.alloc (.cells #[.string bA, .string bB] 9)) _
  obtain ⟨s4, hs4⟩ : ∃ s, s = jnB [bA, bB] := ⟨_, rfl⟩
  refine (joinN [bA, bB] _ 2 2 (by omega) (w3.alloc (.cells #[.string bA, .string bB] 9)) ⟨rfl, Nat.le_refl _, by decide, by rw [HZ.out]; exact HT.out⟩ s4 0 hs4.symm rfl).mono ?_
  rintro e w4 ⟨rfl, hb4⟩
  have q4 : (s4.toList == [47, 97, 47, 98]) = true := by rw [hs4, tl]; decide
  have H4 := Lib.hid ((H3.out.go B4.out).go hb4)
  have B5 := Lib.hid (B3.out.trans ((B4.out.trans (hb4.mono (by rw [HZ.out]; omega))).mono B3.out.size))
  clear hb4 H3 B3 B4 HZ HT hs4
  go_wp2_with fail
  refine (C5.out _).mono ?_
  rintro e w5 ⟨A5, n5, c5, rfl, N5, hb5⟩
  obtain rfl : n5 = 1 := N5.1
  have H5 := Lib.hid (H4.out.go hb5)
  have HL := Lib.hid N5
  have B6 := Lib.hid (B5.out.trans (hb5.mono B5.out.size))
  clear N5 hb5 C5 H4 B5
  obtain ⟨b, o, hAe, hb, hc⟩ := one_cell H5.out.2.2.2 (i := 1) (x := bB) rfl
  subst hAe
  have q5 : (bB.toList == [98]) = true := by rw [tl]; decide
  go_wp2_with (first
    | (go_at_call 20; first | ((with_reducible refine (C6.out _).mono ?_); rintro e w' ⟨rfl, rfl⟩) | ((with_reducible refine (C7.out _).mono ?_); rintro e w' ⟨rfl, rfl⟩))
    | (go_at_call 24; refine (underN [bA] [bA, bB] _ _ _ _ _ _ _ HL.out H5.out true (by decide)).mono ?_; rintro e w' ⟨rfl, k, rfl⟩))
  go_ret
  exact ⟨rfl, below_q _ B6.out⟩
end Go.Proofs.Ytkmbophbjgfacaa.Ph
