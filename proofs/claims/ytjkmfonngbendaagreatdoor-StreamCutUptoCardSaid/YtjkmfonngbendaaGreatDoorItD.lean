/- Contract of package item's rightChanges. -/
import Derived.Test.YtjkmfonngbendaaGreatDoorItB
import Derived.Test.YtjkmfonngbendaaGreatDoorChA
namespace Go.Proofs.YtjkmfonngbendaaGreatDoor.It
set_option linter.unusedVariables false
set_option maxRecDepth 100000
open Go.ChangeShapes Go.WideShapes Go.ChangeAt Go.RowKit
open Ar Rg St
def okC (c : Sc.Ch) : Bool := okKey c.k && (decide (c.v.size ≤ 160) && (c.h || c.v.toList.isEmpty))
def rc (D : List Sc.Ch) : Bool := D.all okC
def RcAt (D : List Sc.Ch) (i : Nat) : Prop := rc D = (D.drop i).all okC
theorem RcAt.zero (D : List Sc.Ch) : RcAt D 0 := rfl
theorem RcAt.last {D : List Sc.Ch} {i : Nat} (h : RcAt D i) (hi : D.length ≤ i) : rc D = true := by
  unfold RcAt at h
  rw [h, List.drop_eq_nil_of_le hi]; rfl
theorem drop_atC {D : List Sc.Ch} {k : Nat} {y : Sc.Ch} (h : D[k]? = some y) : D.drop k = y :: D.drop (k + 1) := by
  obtain ⟨hk, e⟩ := List.getElem?_eq_some_iff.1 h
  rw [List.drop_eq_getElem_cons hk, e]
theorem RcAt.bad {D : List Sc.Ch} {i : Nat} {x : Sc.Ch} (h : RcAt D i) (hx : D[i]? = some x) (hb : okC x = false) : rc D = false := by
  unfold RcAt at h
  rw [h, drop_atC hx, List.all_cons, hb]; rfl
theorem RcAt.more {D : List Sc.Ch} {i : Nat} {x : Sc.Ch} (h : RcAt D i) (hx : D[i]? = some x) (hb : okC x = true) : RcAt D (i + 1) := by
  unfold RcAt at h ⊢
  rw [h, drop_atC hx, List.all_cons, hb, Bool.true_and]
set_option maxRecDepth 100000 in
set_option maxHeartbeats 600000 in
theorem rightChanges_any (D : List Sc.Ch) (A : Option Addr) (n cap B : Nat) (hn : n = D.length) (hm : n ≤ 281474976710656) (w : World) (hB : B ≤ w.heap.size) (hD : Ls Sc.enc 3 w B A D) :
    Calls Tryz.prog 42 #[.slice A n cap] w fun e w' => e = .returned (.bool (rc D)) ∧ Below w.heap.size w w' := by
  have HN := Lib.hid hn
  have HD := Lib.hid hD
  clear hn hD
  go_enter Tryz.func42, Tryz.ntmps42
  go_wp2_with fail
  go_loopw [7] (fun v wr => ∃ i : Nat, i ≤ n ∧ v = .int .i64 i ∧ Hid (RcAt D i) ∧ Hid (Below w.heap.size w wr)) (fun v _ => n - (intOf v).toNat)
  case atStart => exact ⟨0, Nat.zero_le _, by go_num, RcAt.zero D, Below.refl _ _⟩
  case round =>
    obtain ⟨i, hi, rfl, hrt, hbel⟩ := hrel
    by_cases hlt : i < n
    · obtain ⟨x, hx⟩ : ∃ x, D[i]? = some x := ⟨_, List.getElem?_eq_getElem (by rw [← HN.out]; exact hlt)⟩
      have hL := HD.out.below ((Hid.out hbel).mono hB)
      obtain ⟨b, o, hAe, hb, hr⟩ := hL i x hx
      have hbs : b < wr.heap.size := Nat.lt_of_lt_of_le hb (Nat.le_trans hB (Hid.out hbel).size)
      have hc0 : wr.cell? ⟨b, o + i * 3, none⟩ = some (.string x.k) := hr 0 _ rfl
      have hc1 : wr.cell? ⟨b, o + i * 3 + 1, none⟩ = some (.bool x.h) := hr 1 _ rfl
      have hc2 : wr.cell? ⟨b, o + i * 3 + 2, none⟩ = some (.string x.v) := hr 2 _ rfl
      clear hL hr
      subst hAe
      have HBN := Lib.hid (show Below w.heap.size w (wr.alloc (.cells #[.string x.k, .bool x.h, .string x.v] 41)) from (Hid.out hbel).alloc (Hid.out hbel).size _)
      have hqc := rightKey_any x.k
      have hmore := fun h => (Hid.out hrt).more hx h
      have hbad := fun h => (Hid.out hrt).bad hx h
      rw [show okC x = (okKey x.k && (decide (x.v.size ≤ 160) && (x.h || x.v.toList.isEmpty))) from rfl] at hmore hbad
      have HMORE := Lib.hid hmore
      have HBAD := Lib.hid hbad
      clear hmore hbad hrt hx
      obtain ⟨xk, xh, xv⟩ := x
      simp only at hc0 hc1 hc2 HBN hqc HMORE HBAD
      by_cases hq : okKey xk = true
      · rw [hq] at hqc HMORE HBAD
        have HQC := Lib.hid hqc
        clear hqc hq
        by_cases hv : xv.size ≤ 160
        · have hv1 : (xv.size : Int) ≤ 160 := by omega
          rw [decide_eq_true hv] at HMORE HBAD
          by_cases hh : xh = true
          · subst hh
            have HRT := Lib.hid (HMORE.out rfl)
            clear HMORE HBAD
            go_wp2_with (go_at_call 81; refine (HQC.out _).mono ?_; rintro e w1 ⟨rfl, rfl⟩)
            exact ⟨⟨i + 1, by omega, by go_num, HRT.out, HBN.out⟩, by simp [intOf] <;> omega⟩
          · have hh : xh = false := by simpa using hh
            subst hh
            by_cases hz : xv.toList.isEmpty = true
            · rw [hz] at HMORE HBAD
              have HRT := Lib.hid (HMORE.out rfl)
              clear HMORE HBAD
              go_wp2_with (go_at_call 81; refine (HQC.out _).mono ?_; rintro e w1 ⟨rfl, rfl⟩)
              exact ⟨⟨i + 1, by omega, by go_num, HRT.out, HBN.out⟩, by simp [intOf] <;> omega⟩
            · have hz : xv.toList.isEmpty = false := by simpa using hz
              rw [hz] at HMORE HBAD
              have HF := Lib.hid (HBAD.out rfl)
              clear HMORE HBAD
              go_wp2_with (go_at_call 81; refine (HQC.out _).mono ?_; rintro e w1 ⟨rfl, rfl⟩)
              go_ret
              exact ⟨by rw [HF.out]; rfl, HBN.out⟩
        · have hv1 : (160 : Int) < (xv.size : Int) := by omega
          rw [decide_eq_false hv] at HMORE HBAD
          have HF := Lib.hid (HBAD.out rfl)
          clear HMORE HBAD
          go_wp2_with (go_at_call 81; refine (HQC.out _).mono ?_; rintro e w1 ⟨rfl, rfl⟩)
          go_ret
          exact ⟨by rw [HF.out]; rfl, HBN.out⟩
      · have hq : okKey xk = false := by simpa using hq
        rw [hq] at hqc HMORE HBAD
        have HQC := Lib.hid hqc
        clear hqc hq
        have HF := Lib.hid (HBAD.out rfl)
        clear HMORE HBAD
        go_wp2_with (go_at_call 81; refine (HQC.out _).mono ?_; rintro e w1 ⟨rfl, rfl⟩)
        go_ret
        exact ⟨by rw [HF.out]; rfl, HBN.out⟩
    · have HF := Lib.hid ((Hid.out hrt).last (by rw [← HN.out]; omega))
      go_wp2
      go_ret
      exact ⟨by rw [HF.out]; rfl, Hid.out hbel⟩
end Go.Proofs.YtjkmfonngbendaaGreatDoor.It
