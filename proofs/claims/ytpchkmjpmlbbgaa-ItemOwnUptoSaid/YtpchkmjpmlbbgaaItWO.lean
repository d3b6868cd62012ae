/- The walk of the law ItemOwn. -/
import Derived.Test.YtpchkmjpmlbbgaaItY
namespace Go.Proofs.Ytpchkmjpmlbbgaa.It
set_option linter.unusedVariables false
open Go.ChangeShapes Go.WideShapes Go.ChangeAt Go.RowKit
open Ar Rg St
open BigFrame
/-- the elements of a slice may be written, none of them in a block ahead of B or behind E -/
def Wr (B E : Nat) (w : World) (A : Option Addr) (n : Nat) : Prop := ∀ j, j < n → ∃ g o, A = some ⟨g, o, none⟩ ∧ B ≤ g ∧ g < E ∧ (∃ u, w.cell? ⟨g, o + j * 2 + 1, none⟩ = some u) ∧ w.frozen? ⟨g, o + j * 2 + 1, none⟩ = false
theorem Wr.of_mk {w0 w : World} {v : Value} {D : List Itm} {E : Nat} (h : MkI w0 w v D) (hE : w.heap.size ≤ E) : ∃ A n c, v = .slice A n c ∧ n = D.length ∧ Wr w0.heap.size E w A n := by
  rcases h.arr enc_len with ⟨rfl, rfl⟩ | ⟨g, c, rfl, hc, hcm, hg, hlt, hA⟩
  · exact ⟨none, 0, 0, rfl, rfl, fun j hj => by omega⟩
  · refine ⟨_, _, c, rfl, rfl, fun j hj => ⟨g, 0, rfl, hg, by omega, ?_⟩⟩
    obtain ⟨h1, h2⟩ := hA j _ (List.getElem?_eq_getElem hj)
    refine ⟨⟨_, by rw [Nat.zero_add]; exact h1 1 _ rfl⟩, by rw [Nat.zero_add]; exact h2 1 (by decide)⟩
theorem Wr.below {B E : Nat} {w w' : World} {A : Option Addr} {n : Nat} (h : Wr B E w A n) (hb : Below E w w') : Wr B E w' A n := fun j hj => by
  obtain ⟨g, o, h1, h2, h3, ⟨u, h4⟩, h5⟩ := h j hj
  exact ⟨g, o, h1, h2, h3, ⟨u, (hb.cell (p := ⟨g, _, none⟩) h3).trans h4⟩, (hb.frozen (p := ⟨g, _, none⟩) h3).trans h5⟩
theorem Wr.more {B E E' : Nat} {w : World} {A : Option Addr} {n : Nat} (h : Wr B E w A n) (hE : E ≤ E') : Wr B E' w A n := fun j hj => by
  obtain ⟨g, o, h1, h2, h3, h4⟩ := h j hj
  exact ⟨g, o, h1, h2, by omega, h4⟩
theorem Wr.less {B B' E : Nat} {w : World} {A : Option Addr} {n : Nat} (h : Wr B E w A n) (hB : B' ≤ B) : Wr B' E w A n := fun j hj => by
  obtain ⟨g, o, h1, h2, h3, h4⟩ := h j hj
  exact ⟨g, o, h1, by omega, h3, h4⟩
theorem Wr.store {B E : Nat} {w : World} {A : Option Addr} {n : Nat} (h : Wr B E w A n) (p : Addr) (u : Value) : Wr B E (w.setCell p u) A n := fun j hj => by
  obtain ⟨g, o, h1, h2, h3, ⟨x, h4⟩, h5⟩ := h j hj
  refine ⟨g, o, h1, h2, h3, ?_, ?_⟩
  · by_cases e : p = ⟨g, o + j * 2 + 1, none⟩
    · subst e; exact ⟨u, World.cell?_setCell_same w _ u h4⟩
    · exact ⟨x, (World.cell?_setCell_other w p _ u e).trans h4⟩
  · rw [show w.setCell p u = w.setCell p u from rfl]
    have := World.frozen?_setCells p.block [u] p.off w ⟨g, o + j * 2 + 1, none⟩
    first
      | simpa using h5
      | exact h5
def Two (g : Nat) (Aa Ab : Option Addr) (na ca nb cb : Nat) (w : World) : Prop := w.heap[g]? = some (.cells #[.slice Aa na ca, .slice Ab nb cb] 22 (0, 0))
/-- what stays while the lists are spoilt -/
def PP (w3 : World) (E : Nat) (Aa Ab : Option Addr) (na ca nb cb : Nat) (w : World) : Prop := Two E Aa Ab na ca nb cb w ∧ Below w3.heap.size w3 w ∧ Wr w3.heap.size E w Aa na ∧ Wr w3.heap.size E w Ab nb
theorem PP.store {w3 w : World} {E : Nat} {Aa Ab : Option Addr} {na ca nb cb g o : Nat} (h : PP w3 E Aa Ab na ca nb cb w) (h1 : w3.heap.size ≤ g) (h2 : g < E) (u : Value) : PP w3 E Aa Ab na ca nb cb (w.setCell ⟨g, o, none⟩ u) := by
  obtain ⟨a1, a2, a3, a4⟩ := h
  exact ⟨(heap_setCell_other w ⟨g, o, none⟩ E u (by show E ≠ g; omega)).trans a1, a2.setCell (p := ⟨g, o, none⟩) h1 u, a3.store _ _, a4.store _ _⟩
set_option maxRecDepth 100000 in
set_option maxHeartbeats 2000000 in
theorem itemOwn_walk (w : World) (D : List Itm) (A : Option Addr) (n c : Nat) (C : List Ch) (A' : Option Addr) (m c' : Nat) (p : ByteArray) (hl : n ≤ 1048576) (hD : SlI w A n c D) (hl' : m ≤ 1048576) (hC : SlC w A' m c' C) (hps : p.size ≤ maxLen) :
    Calls Try.prog 10 #[.slice A n c, .slice A' m c', .string p] w fun e w' => e = .returned (.bool true) ∧ Below w.heap.size w w' := by
  unfold maxLen at hps
  have HD := Lib.hid hD
  have HC := Lib.hid hC
  have HN := Lib.hid hD.1
  clear hD hC
  go_enter Try.func10, Try.ntmps10
  go_wp2_with fail
  go_at_call 16
  refine (lives_true _).mono ?_
  rintro e w1 ⟨rfl, hb1⟩
  have HB1 := Lib.hid hb1
  clear hb1
  obtain ⟨d1, d2, d3, Bd, d4, d5⟩ := HD.out.below HB1.out
  have HD5 := Lib.hid (And.intro d4 d5)
  clear d1 d2 d3 d4 d5
  go_wp2_with (at_builtin; refine catI (mk_made HB1.out) D A n c HN.out (HD5.out.2.below ((Below.refl _ _).alloc HD5.out.1 _)) (by simp; omega) rfl _ _ rfl rfl rfl ?_; intro v3 w3 hM3 hG3; have HM3 := Lib.hid hM3; clear hM3 hG3)
  have hM3 : MkI w w3 v3 D := HM3.out
  obtain ⟨A3, n3, c3, hv, hs3⟩ := SlI.of_mk hM3
  have HS3 := Lib.hid hs3
  have HB3 := Lib.hid hM3.2
  clear HM3 hM3 hs3
  subst hv
  go_at_call 20
  obtain ⟨x1, x2, x3, Bx, x4, x5⟩ := HD.out.below HB3.out
  obtain ⟨y1, y2, y3, By, y4, y5⟩ := HC.out.below HB3.out
  refine (apply_any D C A A' n c m c' Bx By x1 x2 x3 y1 (by omega) (by omega) w3 x4 y4 x5 y5).mono ?_
  rintro e w4 ⟨v4, rfl, hM4⟩
  have HM4 := Lib.hid hM4
  have HB4 := Lib.hid (HB3.out.trans (hM4.2.mono HB3.out.size))
  clear x1 x2 x3 x4 x5 y1 y2 y3 y4 y5 hM4
  go_wp2_with fail
  go_at_call 14
  obtain ⟨x1, x2, x3, Bx, x4, x5⟩ := HD.out.below HB4.out
  refine (under_any D p hps A n c Bx x1 x2 x3 (by omega) w4 x4 x5).mono ?_
  rintro e w5 ⟨v5, rfl, hM5⟩
  have hwa := HM4.out.go hM5.2
  obtain ⟨Aa, na, ca, hva, hna, hWa⟩ := Wr.of_mk hwa (Nat.le_refl _)
  obtain ⟨Ab, nb, cb, hvb, hnb, hWb⟩ := Wr.of_mk hM5 (Nat.le_refl _)
  have HWa := Lib.hid hWa
  have HWb := Lib.hid (hWb.less (HM4.out.2.size))
  have HB5 := Lib.hid (HM4.out.2.trans (hM5.2.mono HM4.out.2.size))
  have hna2 : na ≤ 2097152 := by
    have h2 := app_len C D
    have h3 := HN.out
    have h4 := HC.out.1
    rw [hna]
    split
    · omega
    · simp
  have hnb2 : nb ≤ 1048576 := by
    have h2 : (und D p).length ≤ D.length := List.length_filter_le _ _
    have h3 := HN.out
    rw [hnb]
    split
    · omega
    · simp
  clear x1 x2 x3 x4 x5 hwa hna hnb hWa hWb hM5 HM4 HB4
  subst hva hvb
  have hK : Two w5.heap.size Aa Ab na ca nb cb (w5.alloc (.cells #[.slice Aa na ca, .slice Ab nb cb] 22)) := heap_alloc_new w5 _
  have hB6 : Below w3.heap.size w3 (w5.alloc (.cells #[.slice Aa na ca, .slice Ab nb cb] 22)) := HB5.out.alloc HB5.out.size _
  have hW1 : Wr w3.heap.size w5.heap.size (w5.alloc (.cells #[.slice Aa na ca, .slice Ab nb cb] 22)) Aa na := HWa.out.below ((Below.refl _ _).alloc (Nat.le_refl _) _)
  have hW2 : Wr w3.heap.size w5.heap.size (w5.alloc (.cells #[.slice Aa na ca, .slice Ab nb cb] 22)) Ab nb := HWb.out.below ((Below.refl _ _).alloc (Nat.le_refl _) _)
  have HP := Lib.hid (show PP w3 w5.heap.size Aa Ab na ca nb cb _ from And.intro hK (And.intro hB6 (And.intro hW1 hW2)))
  clear hK hB6 hW1 hW2 HWa HWb
  go_wp2_with fail
  go_loopw [36] (fun v wr => ∃ i : Nat, i ≤ 2 ∧ v = .int .i64 i ∧ Hid (PP w3 w5.heap.size Aa Ab na ca nb cb wr)) (fun v _ => 2 - (intOf v).toNat)
  case atStart => exact ⟨0, by omega, by go_num, HP.out⟩
  case round =>
    clear HP
    obtain ⟨i, hi, rfl, hp⟩ := hrel
    have h3 : i = 0 ∨ i = 1 ∨ i = 2 := by omega
    rcases h3 with rfl | rfl | rfl
    · skip
      have hc : wr.cell? ⟨w5.heap.size, 0, none⟩ = some (.slice Aa na ca) := by rw [cell_of_row _ _ _ _ _ _ (Hid.out hp).1]; rfl
      go_wp2_with fail
      clear hc
      obtain ⟨wo, hwo⟩ : ∃ wo, wo = wr := ⟨_, rfl⟩
      go_loopw [42] (fun v wr => ∃ j : Nat, j ≤ na ∧ v = .int .i64 j ∧ Hid (PP w3 w5.heap.size Aa Ab na ca nb cb wr)) (fun v _ => na - (intOf v).toNat)
      case atStart => exact ⟨0, Nat.zero_le _, by go_num, hp⟩
      case round =>
        clear hp hwo
        obtain ⟨j, hj, rfl, hp⟩ := hrel
        by_cases hjl : j < na
        · obtain ⟨g, o, hAe, hg1, hg2, ⟨u, hu⟩, hfr⟩ := (Hid.out hp).2.2.1 j hjl
          have HST := Lib.hid ((Hid.out hp).store (o := o + j * 2 + 1) hg1 hg2 (.string { data := #[115, 112, 111, 105, 108, 116] }))
          clear hp
          subst hAe
          go_wp2
          exact ⟨⟨j + 1, by omega, by go_num, HST.out⟩, by simp [intOf] <;> omega⟩
        · go_wp2
          exact ⟨⟨1, by omega, by go_num, Hid.out hp⟩, by simp [intOf] <;> omega⟩
    · skip
      have hc : wr.cell? ⟨w5.heap.size, 1, none⟩ = some (.slice Ab nb cb) := by rw [cell_of_row _ _ _ _ _ _ (Hid.out hp).1]; rfl
      go_wp2_with fail
      clear hc
      obtain ⟨wo, hwo⟩ : ∃ wo, wo = wr := ⟨_, rfl⟩
      go_loopw [42] (fun v wr => ∃ j : Nat, j ≤ nb ∧ v = .int .i64 j ∧ Hid (PP w3 w5.heap.size Aa Ab na ca nb cb wr)) (fun v _ => nb - (intOf v).toNat)
      case atStart => exact ⟨0, Nat.zero_le _, by go_num, hp⟩
      case round =>
        clear hp hwo
        obtain ⟨j, hj, rfl, hp⟩ := hrel
        by_cases hjl : j < nb
        · obtain ⟨g, o, hAe, hg1, hg2, ⟨u, hu⟩, hfr⟩ := (Hid.out hp).2.2.2 j hjl
          have HST := Lib.hid ((Hid.out hp).store (o := o + j * 2 + 1) hg1 hg2 (.string { data := #[115, 112, 111, 105, 108, 116] }))
          clear hp
          subst hAe
          go_wp2
          exact ⟨⟨j + 1, by omega, by go_num, HST.out⟩, by simp [intOf] <;> omega⟩
        · go_wp2
          exact ⟨⟨2, by omega, by go_num, Hid.out hp⟩, by simp [intOf] <;> omega⟩
    · go_wp2_with fail
      go_at_call 17
      refine (sameS (HD.out.below (HB3.out.trans ((Hid.out hp).2.1.mono HB3.out.size))) (HS3.out.below (Hid.out hp).2.1) (by omega)).mono ?_
      rw [sm_iff.2 rfl]
      rintro e w6 ⟨rfl, hb6⟩
      have HB6 := Lib.hid ((HB3.out.trans ((Hid.out hp).2.1.mono HB3.out.size)).trans (hb6.mono (Nat.le_trans HB3.out.size (Hid.out hp).2.1.size)))
      go_wp2
      go_ret
      exact ⟨rfl, HB6.out⟩
end Go.Proofs.Ytpchkmjpmlbbgaa.It
