/- Contracts of the document's Same: items, volumes, nodes. -/
import Derived.Test.YtmibgdlmhjkpfaaDoorNdL
import Derived.Test.YtmibgdlmhjkpfaaDoorRgS
import Derived.BigQuiet
namespace Go.Proofs.YtmibgdlmhjkpfaaDoor.Nd
set_option linter.unusedVariables false
set_option linter.unusedSimpArgs false
open Go.ChangeShapes Go.WideShapes Go.ChangeAt Go.RowKit
open Ar Rg
open BigFrame
open Pk (u8s u8s_length)
open It (str_le below_drewN)
theorem guardV : Tryd.prog.eqGuardType Tryd.prog.depth 62 = false := by kernel_rfl
theorem guardK : Tryd.prog.eqGuardType Tryd.prog.depth 47 = false := by kernel_rfl
theorem range_below {wr w' : World} {b o : Nat} {l : List Value} (hr : wr.rangeAt b o l) (hb : b < wr.heap.size) (hS : Below wr.heap.size wr w') : w'.rangeAt b o l := fun j v hv => (hS.cell (p := ⟨b, _, none⟩) hb).trans (hr j v hv)
set_option maxRecDepth 100000 in
set_option maxHeartbeats 1000000 in
theorem sameI_any (D E : List It.Itm) (A A' : Option Addr) (n c n' c' B B' : Nat) (hn : n = D.length) (hn' : n' = E.length) (hm : n ≤ 281474976710656) (w : World) (hB : B ≤ w.heap.size) (hB' : B' ≤ w.heap.size) (hD : Ls It.enc 2 w B A D) (hE : Ls It.enc 2 w B' A' E) :
    Calls Tryd.prog 20 #[.slice A n c, .slice A' n' c'] w fun e w' => e = .returned (.bool (eqL eqI D E)) ∧ Below w.heap.size w w' := by
  have HN := Lib.hid hn
  have HN' := Lib.hid hn'
  have HD := Lib.hid hD
  have HE := Lib.hid hE
  clear hn hn' hD hE
  by_cases hl : n = n'
  · subst hl
    go_enter Tryd.func20, Tryd.ntmps20
    go_wp2_with fail
    go_loopw [13] (fun v wr => ∃ i : Nat, i ≤ n ∧ v = .int .i64 i ∧ Hid (D.take i = E.take i) ∧ Hid (Below w.heap.size w wr)) (fun v _ => n - (intOf v).toNat)
    case atStart => exact ⟨0, Nat.zero_le _, by go_num, rfl, Below.refl _ _⟩
    case round =>
      obtain ⟨i, hi, rfl, htk, hbel⟩ := hrel
      by_cases hlt : i < n
      · obtain ⟨x, hx⟩ : ∃ x, D[i]? = some x := ⟨_, List.getElem?_eq_getElem (by rw [← HN.out]; exact hlt)⟩
        obtain ⟨y, hy⟩ : ∃ y, E[i]? = some y := ⟨_, List.getElem?_eq_getElem (by rw [← HN'.out]; exact hlt)⟩
        obtain ⟨b, o, hAe, hb, hr⟩ := (HD.out.below ((Hid.out hbel).mono hB)) i x hx
        obtain ⟨b', o', hAe', hb', hr'⟩ := (HE.out.below ((Hid.out hbel).mono hB')) i y hy
        have hc0 : wr.cell? ⟨b, o + i * 2, none⟩ = some (.string x.k) := hr 0 _ rfl
        have hc1 : wr.cell? ⟨b, o + i * 2 + 1, none⟩ = some (.string x.v) := hr 1 _ rfl
        have hd0 : wr.cell? ⟨b', o' + i * 2, none⟩ = some (.string y.k) := hr' 0 _ rfl
        have hd1 : wr.cell? ⟨b', o' + i * 2 + 1, none⟩ = some (.string y.v) := hr' 1 _ rfl
        clear hr hr'
        subst hAe hAe'
        by_cases hk : x.k = y.k
        · have he0 : (x.k.toList == y.k.toList) = true := by rw [str_same]; exact decide_eq_true hk
          by_cases hv : x.v = y.v
          · have he1 : (x.v.toList == y.v.toList) = true := by rw [str_same]; exact decide_eq_true hv
            have HT := Lib.hid (take_same (Hid.out htk) hx ((show y = x by obtain ⟨a1, a2⟩ := x; obtain ⟨b1, b2⟩ := y; dsimp only at hk hv; rw [hk, hv]) ▸ hy))
            clear htk hx hy hk hv
            go_wp2_with fail
            go_big_quiet (fail)
            have HB2 := Lib.hid (below_drewN (Hid.out hbel) nq)
            clear hbel
            generalize World.drewN _ _ = W2 at *
            go_wp2
            exact ⟨⟨i + 1, by omega, by go_num, HT.out, HB2.out⟩, by simp [intOf] <;> omega⟩
          · have he1 : (x.v.toList == y.v.toList) = false := by rw [str_same]; exact decide_eq_false hv
            have HF := Lib.hid (eqL_no eqI_iff (A := D) (B := E) fun e => hv (by rw [e, hy] at hx; cases hx; rfl))
            clear htk hx hy hk hv
            go_wp2_with fail
            go_big_quiet (fail)
            have HB2 := Lib.hid (below_drewN (Hid.out hbel) nq)
            clear hbel
            generalize World.drewN _ _ = W2 at *
            go_wp2
            go_ret
            exact ⟨by rw [HF.out]; rfl, HB2.out⟩
        · have he0 : (x.k.toList == y.k.toList) = false := by rw [str_same]; exact decide_eq_false hk
          have HF := Lib.hid (eqL_no eqI_iff (A := D) (B := E) fun e => hk (by rw [e, hy] at hx; cases hx; rfl))
          clear htk hx hy hk
          go_wp2_with fail
          go_big_quiet (fail)
          have HB2 := Lib.hid (below_drewN (Hid.out hbel) nq)
          clear hbel
          generalize World.drewN _ _ = W2 at *
          go_wp2
          go_ret
          exact ⟨by rw [HF.out]; rfl, HB2.out⟩
      · have HT := Lib.hid (show eqL eqI D E = true from (eqL_iff eqI_iff).2 (by
          have h := Hid.out htk
          rwa [List.take_of_length_le (by rw [← HN.out]; omega), List.take_of_length_le (by rw [← HN'.out]; omega)] at h))
        go_wp2
        go_ret
        exact ⟨by rw [HT.out]; rfl, Hid.out hbel⟩
  · have hne : ((n : Int) != (n' : Int)) = true := by rw [bne_iff_ne]; omega
    have HF := Lib.hid (eqL_no eqI_iff (A := D) (B := E) fun e => hl (by rw [HN.out, HN'.out, e]))
    go_enter Tryd.func20, Tryd.ntmps20
    go_wp2
    go_ret
    exact ⟨by rw [HF.out]; rfl, Below.refl _ _⟩
set_option maxRecDepth 100000 in
set_option maxHeartbeats 4000000 in
theorem sameV_any (D E : List Vo) (wD : ∀ x ∈ D, x.hs.length = 32) (wE : ∀ x ∈ E, x.hs.length = 32) (A A' : Option Addr) (n c n' c' B B' : Nat) (hn : n = D.length) (hn' : n' = E.length) (hm : n ≤ 281474976710656) (w : World) (hB : B ≤ w.heap.size) (hB' : B' ≤ w.heap.size) (hD : Ls ecV 37 w B A D) (hE : Ls ecV 37 w B' A' E) :
    Calls Tryd.prog 21 #[.slice A n c, .slice A' n' c'] w fun e w' => e = .returned (.bool (eqL eqV D E)) ∧ Below w.heap.size w w' := by
  have HN := Lib.hid hn
  have HN' := Lib.hid hn'
  have HD := Lib.hid hD
  have HE := Lib.hid hE
  have HWD := Lib.hid wD
  have HWE := Lib.hid wE
  clear hn hn' hD hE wD wE
  by_cases hl : n = n'
  · subst hl
    go_enter Tryd.func21, Tryd.ntmps21
    go_wp2_with fail
    go_loopw [13] (fun v wr => ∃ i : Nat, i ≤ n ∧ v = .int .i64 i ∧ Hid (D.take i = E.take i) ∧ Hid (Below w.heap.size w wr)) (fun v _ => n - (intOf v).toNat)
    case atStart => exact ⟨0, Nat.zero_le _, by go_num, rfl, Below.refl _ _⟩
    case round =>
      obtain ⟨i, hi, rfl, htk, hbel⟩ := hrel
      by_cases hlt : i < n
      · obtain ⟨x, hx⟩ : ∃ x, D[i]? = some x := ⟨_, List.getElem?_eq_getElem (by rw [← HN.out]; exact hlt)⟩
        obtain ⟨y, hy⟩ : ∃ y, E[i]? = some y := ⟨_, List.getElem?_eq_getElem (by rw [← HN'.out]; exact hlt)⟩
        have HXL := Lib.hid (HWD.out x (List.mem_of_getElem? hx))
        have HYL := Lib.hid (HWE.out y (List.mem_of_getElem? hy))
        obtain ⟨b, o, hAe, hb, hr⟩ := (HD.out.below ((Hid.out hbel).mono hB)) i x hx
        obtain ⟨b', o', hAe', hb', hr'⟩ := (HE.out.below ((Hid.out hbel).mono hB')) i y hy
        have HRX := Lib.hid hr
        have HRY := Lib.hid hr'
        have HBX := Lib.hid (Nat.lt_of_lt_of_le hb (Nat.le_trans hB (Hid.out hbel).size))
        have HBY := Lib.hid (Nat.lt_of_lt_of_le hb' (Nat.le_trans hB' (Hid.out hbel).size))
        have HXX := Lib.hid hx
        have HYY := Lib.hid hy
        clear hr hr' hx hy hb hb'
        subst hAe hAe'
        have heq := fun w => eq_vol x y HXL.out HYL.out w
        have hgd := guardV
        obtain ⟨q, hq⟩ : ∃ q, eqV x y = q := ⟨_, rfl⟩
        rw [hq] at heq
        have HQ := Lib.hid hq
        clear hq
        go_wp2_with fail
        refine wp_region_G (fun w' => Below wr.heap.size wr w') (by kernel_rfl) (by kernel_rfl) (Below.refl _ _).drew ?_
        refine wpG_val (.slice (some ⟨b, o, none⟩) n c) rfl (by rfl) (fun w' hS => by go_simp) ?_
        simp only [List.setIfInBounds_toArray, List.set_cons_zero, List.set_cons_succ]
        refine wpG_val (.int .i64 i) rfl (by rfl) (fun w' hS => by go_simp) ?_
        simp only [List.setIfInBounds_toArray, List.set_cons_zero, List.set_cons_succ]
        refine wpG_val (.pointer (some ⟨b, o + i * 37, none⟩)) rfl (by rfl) (fun w' hS => by go_simp) ?_
        simp only [List.setIfInBounds_toArray, List.set_cons_zero, List.set_cons_succ]
        refine wpG_val (.agg (ecV x).toArray) rfl (by rfl) (fun w' hS => load_run 62 (.tmp 18) rfl b (o + i * 37) rfl (ecV x) _ (range_below HRX.out HBX.out hS) Tryd.underlying62 rfl (infoVs x)) ?_
        simp only [List.setIfInBounds_toArray, List.set_cons_zero, List.set_cons_succ]
        refine wpG_val (.slice (some ⟨b', o', none⟩) n c') rfl (by rfl) (fun w' hS => by go_simp) ?_
        simp only [List.setIfInBounds_toArray, List.set_cons_zero, List.set_cons_succ]
        refine wpG_val (.int .i64 i) rfl (by rfl) (fun w' hS => by go_simp) ?_
        simp only [List.setIfInBounds_toArray, List.set_cons_zero, List.set_cons_succ]
        refine wpG_val (.pointer (some ⟨b', o' + i * 37, none⟩)) rfl (by rfl) (fun w' hS => by go_simp) ?_
        simp only [List.setIfInBounds_toArray, List.set_cons_zero, List.set_cons_succ]
        refine wpG_val (.agg (ecV y).toArray) rfl (by rfl) (fun w' hS => load_run 62 (.tmp 22) rfl b' (o' + i * 37) rfl (ecV y) _ (range_below HRY.out HBY.out hS) Tryd.underlying62 rfl (infoVs y)) ?_
        simp only [List.setIfInBounds_toArray, List.set_cons_zero, List.set_cons_succ]
        refine wpG_val (.bool (!q)) rfl (by rfl) (fun w' hS => by go_simp) ?_
        simp only [List.setIfInBounds_toArray, List.set_cons_zero, List.set_cons_succ]
        refine wpG_nil ?_
        intro w9 hS9
        have HB2 := Lib.hid ((Hid.out hbel).trans (hS9.mono (Hid.out hbel).size))
        clear hS9 hbel heq hgd
        cases q
        · have HF := Lib.hid (eqL_no eqV_iff (A := D) (B := E) fun e => by
            have h1 := HYY.out
            rw [← e, HXX.out] at h1
            cases h1
            have h2 := (eqV_iff x x).2 rfl
            rw [HQ.out] at h2
            cases h2)
          clear htk
          go_wp2
          go_ret
          exact ⟨by rw [HF.out]; rfl, HB2.out⟩
        · have HT := Lib.hid (take_same (Hid.out htk) HXX.out (((eqV_iff x y).1 HQ.out) ▸ HYY.out))
          clear htk
          go_wp2
          exact ⟨⟨i + 1, by omega, by go_num, HT.out, HB2.out⟩, by simp [intOf] <;> omega⟩
      · have HT := Lib.hid (show eqL eqV D E = true from (eqL_iff eqV_iff).2 (by
          have h := Hid.out htk
          rwa [List.take_of_length_le (by rw [← HN.out]; omega), List.take_of_length_le (by rw [← HN'.out]; omega)] at h))
        go_wp2
        go_ret
        exact ⟨by rw [HT.out]; rfl, Hid.out hbel⟩
  · have hne : ((n : Int) != (n' : Int)) = true := by rw [bne_iff_ne]; omega
    have HF := Lib.hid (eqL_no eqV_iff (A := D) (B := E) fun e => hl (by rw [HN.out, HN'.out, e]))
    go_enter Tryd.func21, Tryd.ntmps21
    go_wp2
    go_ret
    exact ⟨by rw [HF.out]; rfl, Below.refl _ _⟩
set_option maxRecDepth 100000 in
set_option maxHeartbeats 8000000 in
theorem same_any (n m : Nd) (hw : Wd n) (hv : Wd m) (cs ds : Array Value) (w : World) (hn : NdAt w cs n) (hm : NdAt w ds m) :
    Calls Tryd.prog 11 #[.agg cs, .agg ds] w fun e w' => e = .returned (.bool (eqN n m)) ∧ Below w.heap.size w w' := by
  obtain ⟨AI, nI, dI, AK, nK, dK, AV, nV, dV, rfl, hI, hK, hV, bI, bK, bV, lI, lK, lV⟩ := hn
  obtain ⟨BI, mI, eI, BK, mK, eK, BV, mV, eV, rfl, gI, gK, gV, aI, aK, aV, kI, kK, kV⟩ := hm
  obtain ⟨kd, I, K, V⟩ := n
  obtain ⟨kd', I', K', V'⟩ := m
  obtain ⟨wK, wV⟩ := hw
  obtain ⟨vK, vV⟩ := hv
  dsimp only at hI hK hV lI lK lV wK wV gI gK gV kI kK kV vK vV ⊢
  have hC1 := fun w' (hb : Below w.heap.size w w') => sameI_any I I' AI BI nI dI mI eI w.heap.size w.heap.size hI gI bI w' hb.size hb.size (lI.below hb) (kI.below hb)
  have hC2 := fun w' (hb : Below w.heap.size w w') => sameV_any V V' (fun x hx => (wV x hx).2.2.2) (fun x hx => (vV x hx).2.2.2) AV BV nV dV mV eV w.heap.size w.heap.size hV gV bV w' hb.size hb.size (lV.below hb) (kV.below hb)
  have HC1 := Lib.hid hC1
  have HC2 := Lib.hid hC2
  have HLK := Lib.hid lK
  have HLM := Lib.hid kK
  have HWK := Lib.hid (show ∀ x ∈ K, x.hs.length = 32 from fun x hx => (wK x hx).2)
  have HVK := Lib.hid (show ∀ x ∈ K', x.hs.length = 32 from fun x hx => (vK x hx).2)
  have HK := Lib.hid hK
  have HM := Lib.hid gK
  obtain ⟨R1, R2, S0, Z0⟩ := two_new w #[.int .u8 (kd : Int), .slice AI nI dI, .slice AK nK dK, .slice AV nV dV] #[.int .u8 (kd' : Int), .slice BI mI eI, .slice BK mK eK, .slice BV mV eV] 27 27
  have HR1 := Lib.hid R1
  have HR2 := Lib.hid R2
  have HS0 := Lib.hid S0
  obtain ⟨R, hR⟩ : ∃ R, eqN ⟨kd, I, K, V⟩ ⟨kd', I', K', V'⟩ = R := ⟨_, rfl⟩
  rw [hR]
  have HR := Lib.hid hR
  unfold eqN at HR
  dsimp only at HR
  rw [← hK, ← gK] at HR
  clear hR hC1 hC2 lI lK lV kI kK kV wK wV vK vV hI hK hV gI gK gV R1 R2 S0 Z0
  by_cases hkd : kd = kd'
  · have q1 : ((kd : Int) != (kd' : Int)) = false := by rw [bne_eq_false_iff_eq]; omega
    cases hq : eqL eqI I I'
    · rw [hq] at HC1 HR
      have HX := Lib.hid (show R = false by rw [← HR.out]; simp)
      clear hq HR hkd
      go_enter Tryd.func11, Tryd.ntmps11
      go_wp2_with (first
        | (go_at_call 20; refine (HC1.out _ HS0.out).mono ?_; rintro e w3 ⟨rfl, hb3⟩; have HB3 := Lib.hid (HS0.out.trans (hb3.mono HS0.out.size)); have HR3 := Lib.hid ((hb3.block _ (row_lt HR1.out)).trans HR1.out); have HR4 := Lib.hid ((hb3.block _ (row_lt HR2.out)).trans HR2.out); have n2 : w3.cell? ⟨w.heap.size, 2, none⟩ = some (.slice AK nK dK) := cell_of_row _ _ 2 _ _ _ HR3.out; have n3 : w3.cell? ⟨w.heap.size, 3, none⟩ = some (.slice AV nV dV) := cell_of_row _ _ 3 _ _ _ HR3.out; have k2 : w3.cell? ⟨w.heap.size + 1, 2, none⟩ = some (.slice BK mK eK) := cell_of_row _ _ 2 _ _ _ HR4.out; have k3 : w3.cell? ⟨w.heap.size + 1, 3, none⟩ = some (.slice BV mV eV) := cell_of_row _ _ 3 _ _ _ HR4.out; clear hb3)
        | (go_at_call 21; refine (HC2.out _ HB3.out).mono ?_; rintro e w5 ⟨rfl, hb5⟩; have HB5 := Lib.hid (HB3.out.trans (hb5.mono HB3.out.size)); have HR5 := Lib.hid ((hb5.block _ (row_lt HR3.out)).trans HR3.out); have HR6 := Lib.hid ((hb5.block _ (row_lt HR4.out)).trans HR4.out); have n5 : w5.cell? ⟨w.heap.size, 2, none⟩ = some (.slice AK nK dK) := cell_of_row _ _ 2 _ _ _ HR5.out; clear hb5))
      go_ret
      exact ⟨by rw [HX.out]; rfl, HB3.out⟩
    · rw [hq] at HC1 HR
      by_cases hlen : nK = mK
      · have q2 : ((nK : Int) != (mK : Int)) = false := by rw [bne_eq_false_iff_eq]; omega
        cases hq2 : eqL eqV V V'
        · rw [hq2] at HC2 HR
          have HX := Lib.hid (show R = false by rw [← HR.out]; simp)
          clear hq hq2 HR hkd hlen
          go_enter Tryd.func11, Tryd.ntmps11
          go_wp2_with (first
            | (go_at_call 20; refine (HC1.out _ HS0.out).mono ?_; rintro e w3 ⟨rfl, hb3⟩; have HB3 := Lib.hid (HS0.out.trans (hb3.mono HS0.out.size)); have HR3 := Lib.hid ((hb3.block _ (row_lt HR1.out)).trans HR1.out); have HR4 := Lib.hid ((hb3.block _ (row_lt HR2.out)).trans HR2.out); have n2 : w3.cell? ⟨w.heap.size, 2, none⟩ = some (.slice AK nK dK) := cell_of_row _ _ 2 _ _ _ HR3.out; have n3 : w3.cell? ⟨w.heap.size, 3, none⟩ = some (.slice AV nV dV) := cell_of_row _ _ 3 _ _ _ HR3.out; have k2 : w3.cell? ⟨w.heap.size + 1, 2, none⟩ = some (.slice BK mK eK) := cell_of_row _ _ 2 _ _ _ HR4.out; have k3 : w3.cell? ⟨w.heap.size + 1, 3, none⟩ = some (.slice BV mV eV) := cell_of_row _ _ 3 _ _ _ HR4.out; clear hb3)
            | (go_at_call 21; refine (HC2.out _ HB3.out).mono ?_; rintro e w5 ⟨rfl, hb5⟩; have HB5 := Lib.hid (HB3.out.trans (hb5.mono HB3.out.size)); have HR5 := Lib.hid ((hb5.block _ (row_lt HR3.out)).trans HR3.out); have HR6 := Lib.hid ((hb5.block _ (row_lt HR4.out)).trans HR4.out); have n5 : w5.cell? ⟨w.heap.size, 2, none⟩ = some (.slice AK nK dK) := cell_of_row _ _ 2 _ _ _ HR5.out; clear hb5))
          go_ret
          exact ⟨by rw [HX.out]; rfl, HB5.out⟩
        · rw [hq2] at HC2 HR
          have HX := Lib.hid (show R = eqL eqK K K' by rw [← HR.out]; simp [hkd, hlen])
          have HLEN := Lib.hid hlen
          clear hq hq2 HR hkd hlen
          go_enter Tryd.func11, Tryd.ntmps11
          go_wp2_with (first
            | (go_at_call 20; refine (HC1.out _ HS0.out).mono ?_; rintro e w3 ⟨rfl, hb3⟩; have HB3 := Lib.hid (HS0.out.trans (hb3.mono HS0.out.size)); have HR3 := Lib.hid ((hb3.block _ (row_lt HR1.out)).trans HR1.out); have HR4 := Lib.hid ((hb3.block _ (row_lt HR2.out)).trans HR2.out); have n2 : w3.cell? ⟨w.heap.size, 2, none⟩ = some (.slice AK nK dK) := cell_of_row _ _ 2 _ _ _ HR3.out; have n3 : w3.cell? ⟨w.heap.size, 3, none⟩ = some (.slice AV nV dV) := cell_of_row _ _ 3 _ _ _ HR3.out; have k2 : w3.cell? ⟨w.heap.size + 1, 2, none⟩ = some (.slice BK mK eK) := cell_of_row _ _ 2 _ _ _ HR4.out; have k3 : w3.cell? ⟨w.heap.size + 1, 3, none⟩ = some (.slice BV mV eV) := cell_of_row _ _ 3 _ _ _ HR4.out; clear hb3)
            | (go_at_call 21; refine (HC2.out _ HB3.out).mono ?_; rintro e w5 ⟨rfl, hb5⟩; have HB5 := Lib.hid (HB3.out.trans (hb5.mono HB3.out.size)); have HR5 := Lib.hid ((hb5.block _ (row_lt HR3.out)).trans HR3.out); have HR6 := Lib.hid ((hb5.block _ (row_lt HR4.out)).trans HR4.out); have n5 : w5.cell? ⟨w.heap.size, 2, none⟩ = some (.slice AK nK dK) := cell_of_row _ _ 2 _ _ _ HR5.out; clear hb5))
          go_loopw [39] (fun v wr => ∃ i : Nat, i ≤ nK ∧ v = .int .i64 i ∧ Hid (K.take i = K'.take i) ∧ Hid (Below w5.heap.size w5 wr)) (fun v _ => nK - (intOf v).toNat)
          case atStart => exact ⟨0, Nat.zero_le _, by go_num, rfl, Below.refl _ _⟩
          case round =>
            obtain ⟨i, hi, rfl, htk, hbel⟩ := hrel
            have HBE := Lib.hid (HB5.out.trans ((Hid.out hbel).mono HB5.out.size))
            by_cases hlt : i < nK
            · have hlm : i < mK := by have := HLEN.out; omega
              obtain ⟨x, hx⟩ : ∃ x, K[i]? = some x := ⟨_, List.getElem?_eq_getElem (by rw [← HK.out]; exact hlt)⟩
              obtain ⟨y, hy⟩ : ∃ y, K'[i]? = some y := ⟨_, List.getElem?_eq_getElem (by rw [← HM.out]; exact hlm)⟩
              have HXL := Lib.hid (HWK.out x (List.mem_of_getElem? hx))
              have HYL := Lib.hid (HVK.out y (List.mem_of_getElem? hy))
              obtain ⟨b, o, hAe, hb, hr⟩ := (HLK.out.below HBE.out) i x hx
              obtain ⟨b', o', hAe', hb', hr'⟩ := (HLM.out.below HBE.out) i y hy
              have HRX := Lib.hid hr
              have HRY := Lib.hid hr'
              have HBX := Lib.hid (Nat.lt_of_lt_of_le hb HBE.out.size)
              have HBY := Lib.hid (Nat.lt_of_lt_of_le hb' HBE.out.size)
              have HXX := Lib.hid hx
              have HYY := Lib.hid hy
              clear hr hr' hx hy hb hb'
              subst hAe hAe'
              have HN2 := Lib.hid (show wr.cell? ⟨w.heap.size, 2, none⟩ = some (.slice (some ⟨b, o, none⟩) nK dK) from cell_of_row _ _ 2 _ _ _ (((Hid.out hbel).block _ (row_lt HR5.out)).trans HR5.out))
              have HK2 := Lib.hid (show wr.cell? ⟨w.heap.size + 1, 2, none⟩ = some (.slice (some ⟨b', o', none⟩) mK eK) from cell_of_row _ _ 2 _ _ _ (((Hid.out hbel).block _ (row_lt HR6.out)).trans HR6.out))
              have HL1 := Lib.hid (show w.heap.size < wr.heap.size from Nat.lt_of_lt_of_le (row_lt HR5.out) (Hid.out hbel).size)
              have HL2 := Lib.hid (show w.heap.size + 1 < wr.heap.size from Nat.lt_of_lt_of_le (row_lt HR6.out) (Hid.out hbel).size)
              have heq := fun w => eq_kid x y HXL.out HYL.out w
              have hgd := guardK
              obtain ⟨q, hq⟩ : ∃ q, eqK x y = q := ⟨_, rfl⟩
              rw [hq] at heq
              have HQ := Lib.hid hq
              clear hq
              go_wp2_with fail
              refine wp_region_G (fun w' => Below wr.heap.size wr w') (by kernel_rfl) (by kernel_rfl) (Below.refl _ _).drew ?_
              refine wpG_val (.pointer (some ⟨w.heap.size, 2, none⟩)) rfl (by rfl) (fun w' hS => by go_simp) ?_
              simp only [List.setIfInBounds_toArray, List.set_cons_zero, List.set_cons_succ]
              refine wpG_val (.slice (some ⟨b, o, none⟩) nK dK) rfl (by rfl) (fun w' hS => by have c := (hS.cell (p := ⟨w.heap.size, 2, none⟩) HL1.out).trans HN2.out; go_simp) ?_
              simp only [List.setIfInBounds_toArray, List.set_cons_zero, List.set_cons_succ]
              refine wpG_val (.int .i64 i) rfl (by rfl) (fun w' hS => by go_simp) ?_
              simp only [List.setIfInBounds_toArray, List.set_cons_zero, List.set_cons_succ]
              refine wpG_val (.pointer (some ⟨b, o + i * 34, none⟩)) rfl (by rfl) (fun w' hS => by go_simp) ?_
              simp only [List.setIfInBounds_toArray, List.set_cons_zero, List.set_cons_succ]
              refine wpG_val (.agg (ecK x).toArray) rfl (by rfl) (fun w' hS => load_run 47 (.tmp 45) rfl b (o + i * 34) rfl (ecK x) _ (range_below HRX.out HBX.out hS) Tryd.underlying47 rfl (infoKs x)) ?_
              simp only [List.setIfInBounds_toArray, List.set_cons_zero, List.set_cons_succ]
              refine wpG_val (.pointer (some ⟨w.heap.size + 1, 2, none⟩)) rfl (by rfl) (fun w' hS => by go_simp) ?_
              simp only [List.setIfInBounds_toArray, List.set_cons_zero, List.set_cons_succ]
              refine wpG_val (.slice (some ⟨b', o', none⟩) mK eK) rfl (by rfl) (fun w' hS => by have c := (hS.cell (p := ⟨w.heap.size + 1, 2, none⟩) HL2.out).trans HK2.out; go_simp) ?_
              simp only [List.setIfInBounds_toArray, List.set_cons_zero, List.set_cons_succ]
              refine wpG_val (.int .i64 i) rfl (by rfl) (fun w' hS => by go_simp) ?_
              simp only [List.setIfInBounds_toArray, List.set_cons_zero, List.set_cons_succ]
              refine wpG_val (.pointer (some ⟨b', o' + i * 34, none⟩)) rfl (by rfl) (fun w' hS => by go_simp) ?_
              simp only [List.setIfInBounds_toArray, List.set_cons_zero, List.set_cons_succ]
              refine wpG_val (.agg (ecK y).toArray) rfl (by rfl) (fun w' hS => load_run 47 (.tmp 50) rfl b' (o' + i * 34) rfl (ecK y) _ (range_below HRY.out HBY.out hS) Tryd.underlying47 rfl (infoKs y)) ?_
              simp only [List.setIfInBounds_toArray, List.set_cons_zero, List.set_cons_succ]
              refine wpG_val (.bool (!q)) rfl (by rfl) (fun w' hS => by go_simp) ?_
              simp only [List.setIfInBounds_toArray, List.set_cons_zero, List.set_cons_succ]
              refine wpG_nil ?_
              intro w9 hS9
              have HB2 := Lib.hid ((Hid.out hbel).trans (hS9.mono (Hid.out hbel).size))
              clear hS9 hbel heq hgd
              cases q
              · have HF := Lib.hid (eqL_no eqK_iff (A := K) (B := K') fun e => by
                  have h1 := HYY.out
                  rw [← e, HXX.out] at h1
                  cases h1
                  have h2 := (eqK_iff x x).2 rfl
                  rw [HQ.out] at h2
                  cases h2)
                clear htk
                go_wp2
                go_ret
                exact ⟨by rw [HX.out, HF.out]; rfl, HB5.out.trans (HB2.out.mono HB5.out.size)⟩
              · have HT := Lib.hid (take_same (Hid.out htk) HXX.out (((eqK_iff x y).1 HQ.out) ▸ HYY.out))
                clear htk
                go_wp2
                exact ⟨⟨i + 1, by omega, by go_num, HT.out, HB2.out⟩, by simp [intOf] <;> omega⟩
            · have HT := Lib.hid (show eqL eqK K K' = true from (eqL_iff eqK_iff).2 (by
                have h := Hid.out htk
                rwa [List.take_of_length_le (by rw [← HK.out]; omega), List.take_of_length_le (by rw [← HM.out, ← HLEN.out]; omega)] at h))
              clear hbel
              go_wp2
              go_ret
              exact ⟨by rw [HX.out, HT.out]; rfl, HBE.out⟩
      · have q2 : ((nK : Int) != (mK : Int)) = true := by rw [bne_iff_ne]; omega
        have HX := Lib.hid (show R = false by rw [← HR.out]; simp [hlen])
        clear hq HR hkd hlen
        go_enter Tryd.func11, Tryd.ntmps11
        go_wp2_with (first
          | (go_at_call 20; refine (HC1.out _ HS0.out).mono ?_; rintro e w3 ⟨rfl, hb3⟩; have HB3 := Lib.hid (HS0.out.trans (hb3.mono HS0.out.size)); have HR3 := Lib.hid ((hb3.block _ (row_lt HR1.out)).trans HR1.out); have HR4 := Lib.hid ((hb3.block _ (row_lt HR2.out)).trans HR2.out); have n2 : w3.cell? ⟨w.heap.size, 2, none⟩ = some (.slice AK nK dK) := cell_of_row _ _ 2 _ _ _ HR3.out; have n3 : w3.cell? ⟨w.heap.size, 3, none⟩ = some (.slice AV nV dV) := cell_of_row _ _ 3 _ _ _ HR3.out; have k2 : w3.cell? ⟨w.heap.size + 1, 2, none⟩ = some (.slice BK mK eK) := cell_of_row _ _ 2 _ _ _ HR4.out; have k3 : w3.cell? ⟨w.heap.size + 1, 3, none⟩ = some (.slice BV mV eV) := cell_of_row _ _ 3 _ _ _ HR4.out; clear hb3)
          | (go_at_call 21; refine (HC2.out _ HB3.out).mono ?_; rintro e w5 ⟨rfl, hb5⟩; have HB5 := Lib.hid (HB3.out.trans (hb5.mono HB3.out.size)); have HR5 := Lib.hid ((hb5.block _ (row_lt HR3.out)).trans HR3.out); have HR6 := Lib.hid ((hb5.block _ (row_lt HR4.out)).trans HR4.out); have n5 : w5.cell? ⟨w.heap.size, 2, none⟩ = some (.slice AK nK dK) := cell_of_row _ _ 2 _ _ _ HR5.out; clear hb5))
        go_ret
        exact ⟨by rw [HX.out]; rfl, HB3.out⟩
  · have q1 : ((kd : Int) != (kd' : Int)) = true := by rw [bne_iff_ne]; omega
    have HX := Lib.hid (show R = false by rw [← HR.out]; simp [hkd])
    clear HR hkd
    go_enter Tryd.func11, Tryd.ntmps11
    go_wp2_with (first
      | (go_at_call 20; refine (HC1.out _ HS0.out).mono ?_; rintro e w3 ⟨rfl, hb3⟩; have HB3 := Lib.hid (HS0.out.trans (hb3.mono HS0.out.size)); have HR3 := Lib.hid ((hb3.block _ (row_lt HR1.out)).trans HR1.out); have HR4 := Lib.hid ((hb3.block _ (row_lt HR2.out)).trans HR2.out); have n2 : w3.cell? ⟨w.heap.size, 2, none⟩ = some (.slice AK nK dK) := cell_of_row _ _ 2 _ _ _ HR3.out; have n3 : w3.cell? ⟨w.heap.size, 3, none⟩ = some (.slice AV nV dV) := cell_of_row _ _ 3 _ _ _ HR3.out; have k2 : w3.cell? ⟨w.heap.size + 1, 2, none⟩ = some (.slice BK mK eK) := cell_of_row _ _ 2 _ _ _ HR4.out; have k3 : w3.cell? ⟨w.heap.size + 1, 3, none⟩ = some (.slice BV mV eV) := cell_of_row _ _ 3 _ _ _ HR4.out; clear hb3)
      | (go_at_call 21; refine (HC2.out _ HB3.out).mono ?_; rintro e w5 ⟨rfl, hb5⟩; have HB5 := Lib.hid (HB3.out.trans (hb5.mono HB3.out.size)); have HR5 := Lib.hid ((hb5.block _ (row_lt HR3.out)).trans HR3.out); have HR6 := Lib.hid ((hb5.block _ (row_lt HR4.out)).trans HR4.out); have n5 : w5.cell? ⟨w.heap.size, 2, none⟩ = some (.slice AK nK dK) := cell_of_row _ _ 2 _ _ _ HR5.out; clear hb5))
    go_ret
    exact ⟨by rw [HX.out]; rfl, HS0.out⟩
end Go.Proofs.YtmibgdlmhjkpfaaDoor.Nd
