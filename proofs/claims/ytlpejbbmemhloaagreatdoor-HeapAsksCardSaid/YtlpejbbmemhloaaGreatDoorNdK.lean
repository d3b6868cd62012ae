/- Contracts of package node's rightKids, rightVolumes. -/
import Derived.Test.YtlpejbbmemhloaaGreatDoorNdQ
import Derived.BigQuiet
namespace Go.Proofs.YtlpejbbmemhloaaGreatDoor.Nd
set_option linter.unusedVariables false
open Go.ChangeShapes Go.WideShapes Go.ChangeAt Go.RowKit
open Ar Rg
open BigFrame
open Pk (u8s u8s_length)
open It (str_le below_drewN)
section
variable {α : Type} {D : List α} {k : Nat} {y : α}
theorem tk_last (h : D[k]? = some y) : (D.take (k + 1)).getLast? = some y := by rw [List.getLast?_take]; simp [h]
theorem dr_at (h : D[k]? = some y) : D.drop k = y :: D.drop (k + 1) := by
  obtain ⟨hk, e⟩ := List.getElem?_eq_some_iff.1 h
  rw [List.drop_eq_getElem_cons hk, e]
end
theorem str_empty {s : ByteArray} (h : s.size ≠ 0) : s.toList.isEmpty = false := by rw [ByteArray.toList_eq, List.isEmpty_eq_false_iff]; intro h2; exact h (show s.data.size = 0 by rw [← Array.length_toList, h2]; rfl)
theorem str_nonil {s : ByteArray} (h : s.size ≠ 0) : ¬ s.toList = [] := by intro h2; have := str_empty h; rw [h2] at this; cases this
theorem str_nil {s : ByteArray} (h : s.size = 0) : s.toList = [] := by rw [ByteArray.toList_eq]; exact List.eq_nil_of_length_eq_zero (by rw [Array.length_toList]; exact h)
def RtKAt (D : List Kd) (i : Nat) : Prop := rtK none D = rtK ((D.take i).getLast?) (D.drop i)
theorem RtKAt.zero (D : List Kd) : RtKAt D 0 := rfl
theorem RtKAt.last {D : List Kd} {i : Nat} (h : RtKAt D i) (hi : D.length ≤ i) : rtK none D = true := by
  unfold RtKAt at h
  rw [h, List.drop_eq_nil_of_le hi]
  cases (List.take i D).getLast? <;> rfl
theorem RtKAt.bad {D : List Kd} {i : Nat} {x : Kd} (h : RtKAt D i) (hx : D[i]? = some x) (hb : okK x = false) : rtK none D = false := by
  unfold RtKAt at h
  rw [h, dr_at hx]
  cases (List.take i D).getLast? <;> simp [rtK, hb]
theorem RtKAt.first {D : List Kd} {x : Kd} (h : RtKAt D 0) (hx : D[0]? = some x) (hb : okK x = true) : RtKAt D 1 := by
  unfold RtKAt at h ⊢
  rw [h, dr_at hx, tk_last hx]
  show (okK x && (true && rtK (some x) (List.drop 1 D))) = _
  rw [hb, Bool.true_and, Bool.true_and]
theorem RtKAt.more {D : List Kd} {k : Nat} {x y : Kd} (h : RtKAt D (k + 1)) (hy : D[k]? = some y) (hx : D[k + 1]? = some x) (hb : okK x = true) (hl : By.bl y.k.data.toList x.k.data.toList = true) : RtKAt D (k + 2) := by
  unfold RtKAt at h ⊢
  rw [h, dr_at hx, tk_last hx, tk_last hy]
  show (okK x && (By.bl y.k.data.toList x.k.data.toList && rtK (some x) (List.drop (k + 2) D))) = _
  rw [hb, hl, Bool.true_and, Bool.true_and]
theorem RtKAt.down {D : List Kd} {k : Nat} {x y : Kd} (h : RtKAt D (k + 1)) (hy : D[k]? = some y) (hx : D[k + 1]? = some x) (hl : By.bl y.k.data.toList x.k.data.toList = false) : rtK none D = false := by
  unfold RtKAt at h
  rw [h, dr_at hx, tk_last hy]
  show (okK x && (By.bl y.k.data.toList x.k.data.toList && _)) = _
  rw [hl, Bool.false_and, Bool.and_false]
def RtVAt (D : List Vo) (i : Nat) : Prop := rtV none D = rtV ((D.take i).getLast?) (D.drop i)
theorem RtVAt.zero (D : List Vo) : RtVAt D 0 := rfl
theorem RtVAt.last {D : List Vo} {i : Nat} (h : RtVAt D i) (hi : D.length ≤ i) : rtV none D = true := by
  unfold RtVAt at h
  rw [h, List.drop_eq_nil_of_le hi]
  cases (List.take i D).getLast? <;> rfl
theorem RtVAt.bad {D : List Vo} {i : Nat} {x : Vo} (h : RtVAt D i) (hx : D[i]? = some x) (hb : okV x = false) : rtV none D = false := by
  unfold RtVAt at h
  rw [h, dr_at hx]
  cases (List.take i D).getLast? <;> simp [rtV, hb]
theorem RtVAt.first {D : List Vo} {x : Vo} (h : RtVAt D 0) (hx : D[0]? = some x) (hb : okV x = true) : RtVAt D 1 := by
  unfold RtVAt at h ⊢
  rw [h, dr_at hx, tk_last hx]
  show (okV x && (true && rtV (some x) (List.drop 1 D))) = _
  rw [hb, Bool.true_and, Bool.true_and]
theorem RtVAt.more {D : List Vo} {k : Nat} {x y : Vo} (h : RtVAt D (k + 1)) (hy : D[k]? = some y) (hx : D[k + 1]? = some x) (hb : okV x = true) (hl : By.bl y.nm.data.toList x.nm.data.toList = true) : RtVAt D (k + 2) := by
  unfold RtVAt at h ⊢
  rw [h, dr_at hx, tk_last hx, tk_last hy]
  show (okV x && (By.bl y.nm.data.toList x.nm.data.toList && rtV (some x) (List.drop (k + 2) D))) = _
  rw [hb, hl, Bool.true_and, Bool.true_and]
theorem RtVAt.down {D : List Vo} {k : Nat} {x y : Vo} (h : RtVAt D (k + 1)) (hy : D[k]? = some y) (hx : D[k + 1]? = some x) (hl : By.bl y.nm.data.toList x.nm.data.toList = false) : rtV none D = false := by
  unfold RtVAt at h
  rw [h, dr_at hx, tk_last hy]
  show (okV x && (By.bl y.nm.data.toList x.nm.data.toList && _)) = _
  rw [hl, Bool.false_and, Bool.and_false]
set_option maxRecDepth 100000 in
set_option maxHeartbeats 4000000 in
theorem rightKids_any (D : List Kd) (hwd : ∀ x ∈ D, x.hs.length = 32) (A : Option Addr) (n cap B : Nat) (hn : n = D.length) (hm : n ≤ 281474976710656) (w : World) (hB : B ≤ w.heap.size) (hD : Ls ecK 34 w B A D) :
    Calls Tryz.prog 107 #[.slice A n cap] w fun e w' => e = .returned (.bool (rtK none D)) ∧ Below w.heap.size w w' := by
  have HN := Lib.hid hn
  have HD := Lib.hid hD
  have HWD := Lib.hid hwd
  clear hn hD hwd
  go_enter Tryz.func107, Tryz.ntmps107
  go_wp2_with fail
  go_loopw [7] (fun v wr => ∃ i : Nat, i ≤ n ∧ v = .int .i64 i ∧ Hid (RtKAt D i) ∧ Hid (Below w.heap.size w wr)) (fun v _ => n - (intOf v).toNat)
  case atStart => exact ⟨0, Nat.zero_le _, by go_num, RtKAt.zero D, Below.refl _ _⟩
  case round =>
    obtain ⟨i, hi, rfl, hrt, hbel⟩ := hrel
    by_cases hlt : i < n
    · obtain ⟨x, hx⟩ : ∃ x, D[i]? = some x := ⟨_, List.getElem?_eq_getElem (by rw [← HN.out]; exact hlt)⟩
      have hxl := HWD.out x (List.mem_of_getElem? hx)
      have hL := HD.out.below ((Hid.out hbel).mono hB)
      obtain ⟨b, o, hAe, hb, hr⟩ := hL i x hx
      have hbs : b < wr.heap.size := Nat.lt_of_lt_of_le hb (Nat.le_trans hB (Hid.out hbel).size)
      have HRG := Lib.hid hr
      have HL := Lib.hid hL
      clear hL hr
      subst hAe
      have HX := Lib.hid hxl
      clear hxl
      have HQ := Lib.hid (fun w => rightNum_any x.n w)
      have hokE : okK x = (decide (x.k.size ≠ 0) && (decide (x.k.size ≤ 48) && okNum x.n)) := rfl
      obtain ⟨q, hq⟩ : ∃ q, q = okNum x.n := ⟨_, rfl⟩
      rw [← hq] at HQ hokE
      clear hq
      by_cases c1 : x.k.size ≠ 0
      · have s1 := str_empty c1
        have s2 := str_nonil c1
        by_cases c2 : x.k.size ≤ 48
        · have s3 : decide ((48 : Int) < (x.k.size : Int)) = false := by rw [decide_eq_false_iff_not]; omega
          cases q
          · have hok : okK x = false := by rw [hokE, Bool.and_false, Bool.and_false]
            have HF := Lib.hid ((Hid.out hrt).bad hx hok)
            clear hrt hx hok hokE c1 c2
            go_wp2_with (first
              | (refine wpList_load_at rfl 45 (.tmp 10) rfl b (o + i * 34) rfl (ecK x) _ HRG.out Tryz.underlying45 rfl (infoKs x) ?_)
              | (refine wpList_fresh rfl 45 (.tmp 4) (.tmp 11) rfl (ecK x).toArray _ _ rfl rfl (infoKa x) (ecK_sz x) (all_of_one (ecK_one x)) ?_; intro w1 hb1 hr1 hz1; have HB1 := Lib.hid ((Hid.out hbel).trans (hb1.mono (Hid.out hbel).size)); have HR1 := Lib.hid hr1; have HL1 := Lib.hid (HL.out.below (hb1.mono (Nat.le_trans hB (Hid.out hbel).size))); have c0 : w1.cell? ⟨wr.heap.size, 0, none⟩ = some (.string x.k) := cell_of_row _ _ 0 _ _ _ hr1; have c1 : w1.cell? ⟨wr.heap.size, 1, none⟩ = some (.int .u32 x.n) := cell_of_row _ _ 1 _ _ _ hr1; clear hr1 hz1 hb1 hbel HL HRG)
              | (go_at_call 139; refine (HQ.out _).mono ?_; rintro e w' ⟨rfl, rfl⟩))
            go_ret
            exact ⟨by rw [HF.out]; rfl, HB1.out⟩
          · have hok : okK x = true := by rw [hokE, decide_eq_true c1, decide_eq_true c2]; rfl
            clear hokE c1 c2
            go_wp2_with (first
              | (refine wpList_load_at rfl 45 (.tmp 10) rfl b (o + i * 34) rfl (ecK x) _ HRG.out Tryz.underlying45 rfl (infoKs x) ?_)
              | (refine wpList_fresh rfl 45 (.tmp 4) (.tmp 11) rfl (ecK x).toArray _ _ rfl rfl (infoKa x) (ecK_sz x) (all_of_one (ecK_one x)) ?_; intro w1 hb1 hr1 hz1; have HB1 := Lib.hid ((Hid.out hbel).trans (hb1.mono (Hid.out hbel).size)); have HR1 := Lib.hid hr1; have HL1 := Lib.hid (HL.out.below (hb1.mono (Nat.le_trans hB (Hid.out hbel).size))); have c0 : w1.cell? ⟨wr.heap.size, 0, none⟩ = some (.string x.k) := cell_of_row _ _ 0 _ _ _ hr1; have c1 : w1.cell? ⟨wr.heap.size, 1, none⟩ = some (.int .u32 x.n) := cell_of_row _ _ 1 _ _ _ hr1; clear hr1 hz1 hb1 hbel HL HRG)
              | (go_at_call 139; refine (HQ.out _).mono ?_; rintro e w' ⟨rfl, rfl⟩))
            by_cases hi0 : i = 0
            · subst hi0
              have HRT := Lib.hid ((Hid.out hrt).first hx hok)
              clear hrt hx hi hok
              have HB3 := HB1
              have HL3 := HL1
              clear HB1 HL1
              go_quiet (fail)
              have HB2 := Lib.hid (below_drewN HB3.out nq)
              clear HB3 HL3
              generalize World.drewN _ _ = W2 at *
              go_wp2
              exact ⟨⟨1, by omega, by go_num, HRT.out, HB2.out⟩, by simp [intOf] <;> omega⟩
            · obtain ⟨k, hk⟩ : ∃ k, i = k + 1 := ⟨i - 1, by omega⟩
              have hk1 : (i : Int) - 1 = (k : Int) := by omega
              have hk2 : (0 : Int) < (i : Int) := by omega
              have hk3 : (k : Int) < (n : Int) := by omega
              obtain ⟨y, hy⟩ : ∃ y, D[k]? = some y := ⟨_, List.getElem?_eq_getElem (by rw [← HN.out]; omega)⟩
              subst hk
              by_cases hl : By.bl y.k.data.toList x.k.data.toList = true
              · have hl1 : (Op.bytesLess x.k.toList y.k.toList || x.k.toList == y.k.toList) = false := by
                  rw [str_le]; show (!By.bl y.k.data.toList x.k.data.toList) = false; rw [hl]; rfl
                have HRT := Lib.hid ((Hid.out hrt).more hy hx hok hl)
                have HY := Lib.hid hy
                clear hrt hx hl hok hy
                have HB3 := HB1
                have HL3 := HL1
                clear HB1 HL1
                obtain ⟨b2, o2, hAe, hb2, hr2⟩ := HL3.out k y HY.out
                cases hAe
                have hcy := hr2 0 _ rfl
                rw [Nat.add_zero] at hcy
                clear hr2
                go_quiet (fail)
                have HB2 := Lib.hid (below_drewN HB3.out nq)
                clear HB3 HL3
                generalize World.drewN _ _ = W2 at *
                go_wp2
                exact ⟨⟨k + 2, by omega, by go_num, HRT.out, HB2.out⟩, by simp [intOf] <;> omega⟩
              · have hl0 : By.bl y.k.data.toList x.k.data.toList = false := by simpa using hl
                have hl1 : (Op.bytesLess x.k.toList y.k.toList || x.k.toList == y.k.toList) = true := by
                  rw [str_le]; show (!By.bl y.k.data.toList x.k.data.toList) = true; rw [hl0]; rfl
                have HRT := Lib.hid ((Hid.out hrt).down hy hx hl0)
                have HY := Lib.hid hy
                clear hrt hx hl hl0 hok hy
                have HB3 := HB1
                have HL3 := HL1
                clear HB1 HL1
                obtain ⟨b2, o2, hAe, hb2, hr2⟩ := HL3.out k y HY.out
                cases hAe
                have hcy := hr2 0 _ rfl
                rw [Nat.add_zero] at hcy
                clear hr2
                go_quiet (fail)
                have HB2 := Lib.hid (below_drewN HB3.out nq)
                clear HB3 HL3
                generalize World.drewN _ _ = W2 at *
                go_wp2
                go_ret
                exact ⟨by rw [HRT.out]; rfl, HB2.out⟩
        · have s3 : decide ((48 : Int) < (x.k.size : Int)) = true := by rw [decide_eq_true_iff]; omega
          have hok : okK x = false := by rw [hokE, decide_eq_false c2, Bool.false_and, Bool.and_false]
          have HF := Lib.hid ((Hid.out hrt).bad hx hok)
          clear hrt hx hok hokE c1 c2
          go_wp2_with (first
            | (refine wpList_load_at rfl 45 (.tmp 10) rfl b (o + i * 34) rfl (ecK x) _ HRG.out Tryz.underlying45 rfl (infoKs x) ?_)
            | (refine wpList_fresh rfl 45 (.tmp 4) (.tmp 11) rfl (ecK x).toArray _ _ rfl rfl (infoKa x) (ecK_sz x) (all_of_one (ecK_one x)) ?_; intro w1 hb1 hr1 hz1; have HB1 := Lib.hid ((Hid.out hbel).trans (hb1.mono (Hid.out hbel).size)); have HR1 := Lib.hid hr1; have HL1 := Lib.hid (HL.out.below (hb1.mono (Nat.le_trans hB (Hid.out hbel).size))); have c0 : w1.cell? ⟨wr.heap.size, 0, none⟩ = some (.string x.k) := cell_of_row _ _ 0 _ _ _ hr1; have c1 : w1.cell? ⟨wr.heap.size, 1, none⟩ = some (.int .u32 x.n) := cell_of_row _ _ 1 _ _ _ hr1; clear hr1 hz1 hb1 hbel HL HRG)
            | (go_at_call 139; refine (HQ.out _).mono ?_; rintro e w' ⟨rfl, rfl⟩))
          go_ret
          exact ⟨by rw [HF.out]; rfl, HB1.out⟩
      · have c1' : x.k.size = 0 := Decidable.not_not.1 c1
        have s1 := str_nil c1'
        have hok : okK x = false := by rw [hokE, decide_eq_false c1, Bool.false_and]
        have HF := Lib.hid ((Hid.out hrt).bad hx hok)
        clear hrt hx hok hokE c1 c1'
        go_wp2_with (first
          | (refine wpList_load_at rfl 45 (.tmp 10) rfl b (o + i * 34) rfl (ecK x) _ HRG.out Tryz.underlying45 rfl (infoKs x) ?_)
          | (refine wpList_fresh rfl 45 (.tmp 4) (.tmp 11) rfl (ecK x).toArray _ _ rfl rfl (infoKa x) (ecK_sz x) (all_of_one (ecK_one x)) ?_; intro w1 hb1 hr1 hz1; have HB1 := Lib.hid ((Hid.out hbel).trans (hb1.mono (Hid.out hbel).size)); have HR1 := Lib.hid hr1; have HL1 := Lib.hid (HL.out.below (hb1.mono (Nat.le_trans hB (Hid.out hbel).size))); have c0 : w1.cell? ⟨wr.heap.size, 0, none⟩ = some (.string x.k) := cell_of_row _ _ 0 _ _ _ hr1; have c1 : w1.cell? ⟨wr.heap.size, 1, none⟩ = some (.int .u32 x.n) := cell_of_row _ _ 1 _ _ _ hr1; clear hr1 hz1 hb1 hbel HL HRG)
          | (go_at_call 139; refine (HQ.out _).mono ?_; rintro e w' ⟨rfl, rfl⟩))
        go_ret
        exact ⟨by rw [HF.out]; rfl, HB1.out⟩
    · have HF := Lib.hid ((Hid.out hrt).last (by rw [← HN.out]; omega))
      go_wp2
      go_ret
      exact ⟨by rw [HF.out]; rfl, Hid.out hbel⟩
set_option maxRecDepth 100000 in
set_option maxHeartbeats 4000000 in
theorem rightVolumes_any (D : List Vo) (hwd : ∀ x ∈ D, x.hs.length = 32) (A : Option Addr) (n cap B : Nat) (hn : n = D.length) (hm : n ≤ 281474976710656) (w : World) (hB : B ≤ w.heap.size) (hD : Ls ecV 37 w B A D) :
    Calls Tryz.prog 108 #[.slice A n cap] w fun e w' => e = .returned (.bool (rtV none D)) ∧ Below w.heap.size w w' := by
  have HN := Lib.hid hn
  have HD := Lib.hid hD
  have HWD := Lib.hid hwd
  clear hn hD hwd
  go_enter Tryz.func108, Tryz.ntmps108
  go_wp2_with fail
  go_loopw [7] (fun v wr => ∃ i : Nat, i ≤ n ∧ v = .int .i64 i ∧ Hid (RtVAt D i) ∧ Hid (Below w.heap.size w wr)) (fun v _ => n - (intOf v).toNat)
  case atStart => exact ⟨0, Nat.zero_le _, by go_num, RtVAt.zero D, Below.refl _ _⟩
  case round =>
    obtain ⟨i, hi, rfl, hrt, hbel⟩ := hrel
    by_cases hlt : i < n
    · obtain ⟨x, hx⟩ : ∃ x, D[i]? = some x := ⟨_, List.getElem?_eq_getElem (by rw [← HN.out]; exact hlt)⟩
      have hxl := HWD.out x (List.mem_of_getElem? hx)
      have hL := HD.out.below ((Hid.out hbel).mono hB)
      obtain ⟨b, o, hAe, hb, hr⟩ := hL i x hx
      have hbs : b < wr.heap.size := Nat.lt_of_lt_of_le hb (Nat.le_trans hB (Hid.out hbel).size)
      have HRG := Lib.hid hr
      have HL := Lib.hid hL
      clear hL hr
      subst hAe
      have HX := Lib.hid hxl
      clear hxl
      have HQ := Lib.hid (fun w => rightVolume_any x HX.out w)
      rw [← ecV_of HX.out] at HQ
      cases hok : okV x
      · rw [hok] at HQ
        have HF := Lib.hid ((Hid.out hrt).bad hx hok)
        clear hrt hx hok
        go_wp2_with (first
          | (refine wpList_load_at rfl 121 (.tmp 10) rfl b (o + i * 37) rfl (ecV x) _ HRG.out Tryz.underlying121 rfl (infoVs x) ?_)
          | (refine wpList_fresh rfl 121 (.tmp 4) (.tmp 11) rfl (ecV x).toArray _ _ rfl rfl (infoVa x) (ecV_sz x) (all_of_one (ecV_one x)) ?_; intro w1 hb1 hr1 hz1; have HB1 := Lib.hid ((Hid.out hbel).trans (hb1.mono (Hid.out hbel).size)); have HR1 := Lib.hid hr1; have HL1 := Lib.hid (HL.out.below (hb1.mono (Nat.le_trans hB (Hid.out hbel).size))); have c0 : w1.cell? ⟨wr.heap.size, 0, none⟩ = some (.string x.nm) := cell_of_row _ _ 0 _ _ _ hr1; clear hr1 hz1 hb1 hbel HL HRG)
          | (refine wpList_load_row rfl 121 (.tmp 4) rfl wr.heap.size rfl 121 (ecV x).toArray (0, 0) _ HR1.out Tryz.underlying121 rfl (infoVa x) ?_)
          | (go_at_call 140; refine (HQ.out _).mono ?_; rintro e w3 ⟨rfl, hb3⟩))
        go_ret
        exact ⟨by rw [HF.out]; rfl, HB1.out.trans (hb3.mono HB1.out.size)⟩
      · rw [hok] at HQ
        go_wp2_with (first
          | (refine wpList_load_at rfl 121 (.tmp 10) rfl b (o + i * 37) rfl (ecV x) _ HRG.out Tryz.underlying121 rfl (infoVs x) ?_)
          | (refine wpList_fresh rfl 121 (.tmp 4) (.tmp 11) rfl (ecV x).toArray _ _ rfl rfl (infoVa x) (ecV_sz x) (all_of_one (ecV_one x)) ?_; intro w1 hb1 hr1 hz1; have HB1 := Lib.hid ((Hid.out hbel).trans (hb1.mono (Hid.out hbel).size)); have HR1 := Lib.hid hr1; have HL1 := Lib.hid (HL.out.below (hb1.mono (Nat.le_trans hB (Hid.out hbel).size))); have c0 : w1.cell? ⟨wr.heap.size, 0, none⟩ = some (.string x.nm) := cell_of_row _ _ 0 _ _ _ hr1; clear hr1 hz1 hb1 hbel HL HRG)
          | (refine wpList_load_row rfl 121 (.tmp 4) rfl wr.heap.size rfl 121 (ecV x).toArray (0, 0) _ HR1.out Tryz.underlying121 rfl (infoVa x) ?_)
          | (go_at_call 140; refine (HQ.out _).mono ?_; rintro e w3 ⟨rfl, hb3⟩))
        by_cases hi0 : i = 0
        · subst hi0
          have HRT := Lib.hid ((Hid.out hrt).first hx hok)
          clear hrt hx hi hok
          have HB3 := Lib.hid (HB1.out.trans (hb3.mono HB1.out.size))
          have HL3 := Lib.hid (HL1.out.below (hb3.mono (Nat.le_trans hB HB1.out.size)))
          have HR3 := Lib.hid ((hb3.block _ (row_lt HR1.out)).trans HR1.out)
          clear hb3 HB1 HL1 c0 HR1
          have c0 : w3.cell? ⟨wr.heap.size, 0, none⟩ = some (.string x.nm) := cell_of_row _ _ 0 _ _ _ HR3.out
          go_quiet (fail)
          have HB2 := Lib.hid (below_drewN HB3.out nq)
          clear HB3 HL3
          generalize World.drewN _ _ = W2 at *
          go_wp2
          exact ⟨⟨1, by omega, by go_num, HRT.out, HB2.out⟩, by simp [intOf] <;> omega⟩
        · obtain ⟨k, hk⟩ : ∃ k, i = k + 1 := ⟨i - 1, by omega⟩
          have hk1 : (i : Int) - 1 = (k : Int) := by omega
          have hk2 : (0 : Int) < (i : Int) := by omega
          have hk3 : (k : Int) < (n : Int) := by omega
          obtain ⟨y, hy⟩ : ∃ y, D[k]? = some y := ⟨_, List.getElem?_eq_getElem (by rw [← HN.out]; omega)⟩
          subst hk
          by_cases hl : By.bl y.nm.data.toList x.nm.data.toList = true
          · have hl1 : (Op.bytesLess x.nm.toList y.nm.toList || x.nm.toList == y.nm.toList) = false := by
              rw [str_le]; show (!By.bl y.nm.data.toList x.nm.data.toList) = false; rw [hl]; rfl
            have HRT := Lib.hid ((Hid.out hrt).more hy hx hok hl)
            have HY := Lib.hid hy
            clear hrt hx hl hok hy
            have HB3 := Lib.hid (HB1.out.trans (hb3.mono HB1.out.size))
            have HL3 := Lib.hid (HL1.out.below (hb3.mono (Nat.le_trans hB HB1.out.size)))
            have HR3 := Lib.hid ((hb3.block _ (row_lt HR1.out)).trans HR1.out)
            clear hb3 HB1 HL1 c0 HR1
            have c0 : w3.cell? ⟨wr.heap.size, 0, none⟩ = some (.string x.nm) := cell_of_row _ _ 0 _ _ _ HR3.out
            obtain ⟨b2, o2, hAe, hb2, hr2⟩ := HL3.out k y HY.out
            cases hAe
            have hcy := hr2 0 _ rfl
            rw [Nat.add_zero] at hcy
            clear hr2
            go_quiet (fail)
            have HB2 := Lib.hid (below_drewN HB3.out nq)
            clear HB3 HL3
            generalize World.drewN _ _ = W2 at *
            go_wp2
            exact ⟨⟨k + 2, by omega, by go_num, HRT.out, HB2.out⟩, by simp [intOf] <;> omega⟩
          · have hl0 : By.bl y.nm.data.toList x.nm.data.toList = false := by simpa using hl
            have hl1 : (Op.bytesLess x.nm.toList y.nm.toList || x.nm.toList == y.nm.toList) = true := by
              rw [str_le]; show (!By.bl y.nm.data.toList x.nm.data.toList) = true; rw [hl0]; rfl
            have HRT := Lib.hid ((Hid.out hrt).down hy hx hl0)
            have HY := Lib.hid hy
            clear hrt hx hl hl0 hok hy
            have HB3 := Lib.hid (HB1.out.trans (hb3.mono HB1.out.size))
            have HL3 := Lib.hid (HL1.out.below (hb3.mono (Nat.le_trans hB HB1.out.size)))
            have HR3 := Lib.hid ((hb3.block _ (row_lt HR1.out)).trans HR1.out)
            clear hb3 HB1 HL1 c0 HR1
            have c0 : w3.cell? ⟨wr.heap.size, 0, none⟩ = some (.string x.nm) := cell_of_row _ _ 0 _ _ _ HR3.out
            obtain ⟨b2, o2, hAe, hb2, hr2⟩ := HL3.out k y HY.out
            cases hAe
            have hcy := hr2 0 _ rfl
            rw [Nat.add_zero] at hcy
            clear hr2
            go_quiet (fail)
            have HB2 := Lib.hid (below_drewN HB3.out nq)
            clear HB3 HL3
            generalize World.drewN _ _ = W2 at *
            go_wp2
            go_ret
            exact ⟨by rw [HRT.out]; rfl, HB2.out⟩
    · have HF := Lib.hid ((Hid.out hrt).last (by rw [← HN.out]; omega))
      go_wp2
      go_ret
      exact ⟨by rw [HF.out]; rfl, Hid.out hbel⟩
end Go.Proofs.YtlpejbbmemhloaaGreatDoor.Nd
