/- Contract of package item's rightList. -/
import Derived.Test.YtjkmfonngbendaaGreatDoorItA
namespace Go.Proofs.YtjkmfonngbendaaGreatDoor.It
set_option linter.unusedVariables false
set_option maxRecDepth 100000
open Go.ChangeShapes Go.WideShapes Go.ChangeAt Go.RowKit
open Ar Rg St
def okI (x : Itm) : Bool := okKey x.k && decide (x.v.size ≤ 160)
def rtFrom : Option Itm → List Itm → Bool
  | _, [] => true
  | none, x :: r => okI x && rtFrom (some x) r
  | some y, x :: r => okI x && (By.bl (key y) (key x) && rtFrom (some x) r)
def rt (D : List Itm) : Bool := rtFrom none D
theorem take_last {D : List Itm} {k : Nat} {y : Itm} (h : D[k]? = some y) : (D.take (k + 1)).getLast? = some y := by
  rw [List.getLast?_take]
  simp [h]
theorem drop_at {D : List Itm} {k : Nat} {y : Itm} (h : D[k]? = some y) : D.drop k = y :: D.drop (k + 1) := by
  obtain ⟨hk, e⟩ := List.getElem?_eq_some_iff.1 h
  rw [List.drop_eq_getElem_cons hk, e]
def RtAt (D : List Itm) (i : Nat) : Prop := rt D = rtFrom ((D.take i).getLast?) (D.drop i)
theorem RtAt.zero (D : List Itm) : RtAt D 0 := rfl
theorem RtAt.last {D : List Itm} {i : Nat} (h : RtAt D i) (hi : D.length ≤ i) : rt D = true := by
  unfold RtAt at h
  rw [h, List.drop_eq_nil_of_le hi]
  cases (List.take i D).getLast? <;> rfl
theorem RtAt.bad {D : List Itm} {i : Nat} {x : Itm} (h : RtAt D i) (hx : D[i]? = some x) (hb : okI x = false) : rt D = false := by
  unfold RtAt at h
  rw [h, drop_at hx]
  cases (List.take i D).getLast? <;> simp [rtFrom, hb]
theorem RtAt.first {D : List Itm} {x : Itm} (h : RtAt D 0) (hx : D[0]? = some x) (hb : okI x = true) : RtAt D 1 := by
  unfold RtAt at h ⊢
  rw [h, drop_at hx, take_last hx]
  show (okI x && rtFrom (some x) (List.drop 1 D)) = _
  rw [hb, Bool.true_and]
theorem RtAt.more {D : List Itm} {k : Nat} {x y : Itm} (h : RtAt D (k + 1)) (hy : D[k]? = some y) (hx : D[k + 1]? = some x) (hb : okI x = true) (hl : By.bl (key y) (key x) = true) : RtAt D (k + 2) := by
  unfold RtAt at h ⊢
  rw [h, drop_at hx, take_last hx, take_last hy]
  show (okI x && (By.bl (key y) (key x) && rtFrom (some x) (List.drop (k + 2) D))) = _
  rw [hb, hl, Bool.true_and, Bool.true_and]
theorem RtAt.down {D : List Itm} {k : Nat} {x y : Itm} (h : RtAt D (k + 1)) (hy : D[k]? = some y) (hx : D[k + 1]? = some x) (hl : By.bl (key y) (key x) = false) : rt D = false := by
  unfold RtAt at h
  rw [h, drop_at hx, take_last hy]
  show (okI x && (By.bl (key y) (key x) && _)) = _
  rw [hl, Bool.false_and, Bool.and_false]
theorem str_le (a b : ByteArray) : (Op.bytesLess a.toList b.toList || a.toList == b.toList) = !By.bl b.data.toList a.data.toList := by
  rw [ByteArray.toList_eq, ByteArray.toList_eq]
  show (By.bl a.data.toList b.data.toList || _) = _
  generalize a.data.toList = x
  generalize b.data.toList = y
  cases h : By.bl y x
  · cases h2 : By.bl x y
    · have := By.blOrd.tri x y h2 h
      subst this
      simp
    · rfl
  · rw [By.blOrd.asymm y x h, Bool.false_or]
    rw [Bool.not_true, beq_eq_false_iff_ne]
    exact (By.blOrd.ne h).symm
theorem below_drewN {B : Nat} {w w' : World} (h : Below B w w') (n : Nat) : Below B w (w'.drewN n) := ⟨h.os, h.tape, h.output, h.size, h.block⟩
set_option maxRecDepth 100000 in
set_option maxHeartbeats 600000 in
theorem rightList_any (D : List Itm) (A : Option Addr) (n cap B : Nat) (hn : n = D.length) (hm : n ≤ 281474976710656) (w : World) (hB : B ≤ w.heap.size) (hD : Ls enc 2 w B A D) :
    Calls Tryz.prog 41 #[.slice A n cap] w fun e w' => e = .returned (.bool (rt D)) ∧ Below w.heap.size w w' := by
  have HN := Lib.hid hn
  have HD := Lib.hid hD
  clear hn hD
  go_enter Tryz.func41, Tryz.ntmps41
  go_wp2_with fail
  go_loopw [7] (fun v wr => ∃ i : Nat, i ≤ n ∧ v = .int .i64 i ∧ Hid (RtAt D i) ∧ Hid (Below w.heap.size w wr)) (fun v _ => n - (intOf v).toNat)
  case atStart => exact ⟨0, Nat.zero_le _, by go_num, RtAt.zero D, Below.refl _ _⟩
  case round =>
    obtain ⟨i, hi, rfl, hrt, hbel⟩ := hrel
    by_cases hlt : i < n
    · obtain ⟨x, hx⟩ : ∃ x, D[i]? = some x := ⟨_, List.getElem?_eq_getElem (by rw [← HN.out]; exact hlt)⟩
      have hL := HD.out.below ((Hid.out hbel).mono hB)
      obtain ⟨b, o, hAe, hb, hr⟩ := hL i x hx
      have hbs : b < wr.heap.size := Nat.lt_of_lt_of_le hb (Nat.le_trans hB (Hid.out hbel).size)
      have hc0 : wr.cell? ⟨b, o + i * 2, none⟩ = some (.string x.k) := hr 0 _ rfl
      have hc1 : wr.cell? ⟨b, o + i * 2 + 1, none⟩ = some (.string x.v) := hr 1 _ rfl
      have HL := Lib.hid hL
      clear hL hr
      subst hAe
      have HBN := Lib.hid (show Below w.heap.size w (wr.alloc (.cells #[.string x.k, .string x.v] 82)) from (Hid.out hbel).alloc (Hid.out hbel).size _)
      obtain ⟨q, hq⟩ : ∃ q, q = okKey x.k := ⟨_, rfl⟩
      have hqc := rightKey_any x.k
      rw [← hq] at hqc
      have HQC := Lib.hid hqc
      clear hqc
      by_cases hok : okI x = true
      · have hq1 : q = true := by rw [hq]; simp [okI] at hok; exact hok.1
        have hv : x.v.size ≤ 160 := by simp [okI] at hok; exact hok.2
        have hv1 : (x.v.size : Int) ≤ 160 := by omega
        subst hq1
        clear hq
        go_wp2_with (go_at_call 81; refine (HQC.out _).mono ?_; rintro e w1 ⟨rfl, rfl⟩)
        have hcx : (wr.alloc (.cells #[.string x.k, .string x.v] 82)).cell? ⟨wr.heap.size, 0, none⟩ = some (.string x.k) := by simp
        by_cases hi0 : i = 0
        · subst hi0
          have HRT := Lib.hid ((Hid.out hrt).first hx hok)
          clear hrt hx hi
          generalize wr.alloc _ = W1 at *
          go_quiet (fail)
          have HB2 := Lib.hid (below_drewN HBN.out nq)
          clear HBN hbel
          generalize World.drewN _ _ = W2 at *
          go_wp2
          exact ⟨⟨1, by omega, by go_num, HRT.out, HB2.out⟩, by simp [intOf] <;> omega⟩
        · obtain ⟨k, hk⟩ : ∃ k, i = k + 1 := ⟨i - 1, by omega⟩
          have hk1 : (i : Int) - 1 = (k : Int) := by omega
          have hk2 : (0 : Int) < (i : Int) := by omega
          have hk3 : (k : Int) < (n : Int) := by omega
          obtain ⟨y, hy⟩ : ∃ y, D[k]? = some y := ⟨_, List.getElem?_eq_getElem (by rw [← HN.out]; omega)⟩
          obtain ⟨b2, o2, hAe, hb2, hr⟩ := HL.out k y hy
          cases hAe
          have hcy : (wr.alloc (.cells #[.string x.k, .string x.v] 82)).cell? ⟨b, o + k * 2, none⟩ = some (.string y.k) := by
            rw [World.cell?_alloc_lt _ _ _ hbs]
            exact hr 0 _ rfl
          subst hk
          clear hr
          by_cases hl : By.bl (key y) (key x) = true
          · have hl1 : (Op.bytesLess x.k.toList y.k.toList || x.k.toList == y.k.toList) = false := by
              rw [str_le]; show (!By.bl (key y) (key x)) = false; rw [hl]; rfl
            have HRT := Lib.hid ((Hid.out hrt).more hy hx hok hl)
            clear hrt hx hy hl
            generalize wr.alloc _ = W1 at *
            go_quiet (fail)
            have HB2 := Lib.hid (below_drewN HBN.out nq)
            clear HBN hbel
            generalize World.drewN _ _ = W2 at *
            go_wp2
            exact ⟨⟨k + 2, by omega, by go_num, HRT.out, HB2.out⟩, by simp [intOf] <;> omega⟩
          · have hl0 : By.bl (key y) (key x) = false := by simpa using hl
            have hl1 : (Op.bytesLess x.k.toList y.k.toList || x.k.toList == y.k.toList) = true := by
              rw [str_le]; show (!By.bl (key y) (key x)) = true; rw [hl0]; rfl
            have HRT := Lib.hid ((Hid.out hrt).down hy hx hl0)
            clear hrt hx hy hl hl0
            generalize wr.alloc _ = W1 at *
            go_quiet (fail)
            have HB2 := Lib.hid (below_drewN HBN.out nq)
            clear HBN hbel
            generalize World.drewN _ _ = W2 at *
            go_wp2
            go_ret
            exact ⟨by rw [HRT.out]; rfl, HB2.out⟩
      · have hok1 : okI x = false := by simpa using hok
        have HF := Lib.hid ((Hid.out hrt).bad hx hok1)
        by_cases hq1 : q = true
        · have hv : ¬ x.v.size ≤ 160 := by
            intro h
            rw [okI, ← hq, hq1, decide_eq_true h] at hok1
            cases hok1
          have hv1 : (160 : Int) < (x.v.size : Int) := by omega
          subst hq1
          clear hq
          go_wp2_with (go_at_call 81; refine (HQC.out _).mono ?_; rintro e w1 ⟨rfl, rfl⟩)
          go_ret
          exact ⟨by rw [HF.out]; rfl, HBN.out⟩
        · have hq1 : q = false := by simpa using hq1
          subst hq1
          clear hq
          go_wp2_with (go_at_call 81; refine (HQC.out _).mono ?_; rintro e w1 ⟨rfl, rfl⟩)
          go_ret
          exact ⟨by rw [HF.out]; rfl, HBN.out⟩
    · have HF := Lib.hid ((Hid.out hrt).last (by rw [← HN.out]; omega))
      go_wp2
      go_ret
      exact ⟨by rw [HF.out]; rfl, Hid.out hbel⟩
end Go.Proofs.YtjkmfonngbendaaGreatDoor.It
