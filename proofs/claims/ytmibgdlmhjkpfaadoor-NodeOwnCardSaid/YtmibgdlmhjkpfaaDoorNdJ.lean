/- Contracts of package node's Named, Kids. -/
import Derived.Test.YtmibgdlmhjkpfaaDoorNdI
namespace Go.Proofs.YtmibgdlmhjkpfaaDoor.Nd
set_option linter.unusedVariables false
set_option linter.unusedSimpArgs false
open Go.ChangeShapes Go.WideShapes Go.ChangeAt Go.RowKit
open Ar Rg
open BigFrame
open Pk (be num be_length u8s u8s_length)
open It (str_le below_drewN)
def nmK (x : Kd) : Kd := ⟨⟨#[]⟩, x.n, x.hs⟩
def nmV (x : Vo) : Kd := ⟨⟨#[]⟩, x.rt, x.hs⟩
def isV (x : Vo) : Bool := decide (x.rt ≠ 0)
/-- where a node leads -/
def nmN (n : Nd) : List Kd := if n.kd = 2 then n.K.map nmK else if n.kd = 3 then (n.V.filter isV).map nmV else []
theorem kid_built (y : Kd) (hk : y.k = ⟨#[]⟩) (hl : y.hs.length = 32) : List.foldl (fun (cs : Array Value) (x : Value × Nat) => cs.setIfInBounds (2 + x.snd) x.fst) #[.string ⟨#[]⟩, .int .u32 (y.n : Int), .int .u8 0, .int .u8 0, .int .u8 0, .int .u8 0, .int .u8 0, .int .u8 0, .int .u8 0, .int .u8 0, .int .u8 0, .int .u8 0, .int .u8 0, .int .u8 0, .int .u8 0, .int .u8 0, .int .u8 0, .int .u8 0, .int .u8 0, .int .u8 0, .int .u8 0, .int .u8 0, .int .u8 0, .int .u8 0, .int .u8 0, .int .u8 0, .int .u8 0, .int .u8 0, .int .u8 0, .int .u8 0, .int .u8 0, .int .u8 0, .int .u8 0, .int .u8 0] (u8s y.hs).zipIdx = (ecK y).toArray := by
  have := fold_put (u8s y.hs) (zH.toList) [.string ⟨#[]⟩, .int .u32 (y.n : Int)] 2 0 (by rw [u8s_length, hl]; rfl) rfl
  unfold ecK
  rw [fix_of hl, hk]
  exact this
theorem map_snoc {α β : Type} (f : α → β) {D : List α} {i : Nat} {x : α} (h : D[i]? = some x) : (D.take (i + 1)).map f = (D.take i).map f ++ [f x] := by
  obtain ⟨hk, e⟩ := List.getElem?_eq_some_iff.1 h
  rw [List.take_succ_eq_append_getElem hk, e, List.map_append]; rfl
theorem filt_snoc {D : List Vo} {i : Nat} {x : Vo} (h : D[i]? = some x) : ((D.take (i + 1)).filter isV).map nmV = ((D.take i).filter isV).map nmV ++ (if isV x then [nmV x] else []) := by
  obtain ⟨hk, e⟩ := List.getElem?_eq_some_iff.1 h
  rw [List.take_succ_eq_append_getElem hk, e, List.filter_append, List.map_append]
  congr 1
  by_cases hx : isV x = true
  · simp [List.filter_cons, hx]
  · simp [List.filter_cons, hx]
theorem arr_info (l : List UInt8) (h : l.length = 32) : (Tryd.prog.info? 45).map (·.size) = some (u8s l).length := by rw [u8s_length, h]; kernel_rfl
set_option maxRecDepth 100000 in
set_option maxHeartbeats 8000000 in
theorem named_any (n : Nd) (hw : Wd n) (hs1 : n.K.length ≤ 2513169434915) (hs2 : n.V.length ≤ 2513169434915) (cs : Array Value) (w : World) (hn : NdAt w cs n) :
    Calls Tryd.prog 24 #[.agg cs] w fun e w' => ∃ v, e = .returned v ∧ MkK w w' v (nmN n) := by
  obtain ⟨AI, nI, dI, AK, nK, dK, AV, nV, dV, rfl, hI, hK, hV, bI, bK, bV, lI, lK, lV⟩ := hn
  obtain ⟨kd, I, K, V⟩ := n
  obtain ⟨wK, wV⟩ := hw
  dsimp only at hI hK hV lI lK lV wK wV hs1 hs2 ⊢
  have HB0 := Lib.hid (show Below w.heap.size w (w.alloc (.cells #[.int .u8 (kd : Int), .slice AI nI dI, .slice AK nK dK, .slice AV nV dV] 27)) from (Below.refl _ _).alloc (Nat.le_refl _) _)
  by_cases h2 : kd = 2
  · have q2 : ((kd : Int) == 2) = true := by rw [h2]; rfl
    have HX := Lib.hid (show nmN ⟨kd, I, K, V⟩ = K.map nmK by unfold nmN; rw [if_pos h2])
    have HWX := Lib.hid (show ∀ x ∈ K, x.hs.length = 32 from fun x hx => (wK x hx).2)
    have HSM := Lib.hid (show nK ≤ 2513169434915 by rw [hK]; exact hs1)
    have HK := Lib.hid hK
    have HLX := Lib.hid lK
    clear h2 hI hK hV lI lK lV wK wV hs1 hs2
    go_enter Tryd.func24, Tryd.ntmps24
    go_wp2_with fail
    generalize w.alloc _ = w0 at *
    go_loopw [3, 15] (fun av v wr => ∃ (i : Nat) (D : List Kd), i ≤ nK ∧ v = .int .i64 i ∧ Hid (D = (K.take i).map nmK) ∧ Hid (D.length ≤ i) ∧ Hid (MkK w wr av D)) (fun _ v _ => nK - (intOf v).toNat)
    case atStart => exact ⟨0, [], Nat.zero_le _, by go_num, rfl, Nat.le_refl _, Mk.nil HB0.out⟩
    case round =>
      obtain ⟨i, D, hi, rfl, hD, hDl, hmk⟩ := hrel
      by_cases hlt : i < nK
      · obtain ⟨x, hx⟩ : ∃ x, K[i]? = some x := ⟨_, List.getElem?_eq_getElem (by rw [← HK.out]; exact hlt)⟩
        have HXL := Lib.hid (HWX.out x (List.mem_of_getElem? hx))
        have HDL := Lib.hid (show D.length ≤ 2513169434915 by have h := Hid.out hDl; have := HSM.out; omega)
        obtain ⟨b, o, hAe, hb, hr⟩ := (HLX.out.below (Hid.out hmk).2) i x hx
        have hbs : b < wr.heap.size := Nat.lt_of_lt_of_le hb (Hid.out hmk).2.size
        have HRG := Lib.hid hr
        have HM := Lib.hid (Hid.out hmk)
        have HAI := Lib.hid (arr_info x.hs HXL.out)
        have HXX := Lib.hid hx
        obtain ⟨y, hy⟩ : ∃ y, nmK x = y := ⟨_, rfl⟩
        have hb1 := kid_built y (by rw [← hy]; rfl) (by rw [← hy]; exact HXL.out)
        rw [show y.n = x.n by rw [← hy]; rfl, show y.hs = x.hs by rw [← hy]; rfl] at hb1
        have HY := Lib.hid hy
        have hz1 : (u8s x.hs).length = 32 := by rw [u8s_length, HXL.out]
        have hz2 : x.hs.length = 32 := HXL.out
        clear hr hx hmk hy
        subst hAe
        have HDN := Lib.hid (show D ++ [y] = (K.take (i + 1)).map nmK by rw [map_snoc nmK HXX.out, ← Hid.out hD, HY.out])
        have HLN := Lib.hid (show (D ++ [y]).length ≤ i + 1 by rw [List.length_append]; have h := Hid.out hDl; simp; exact h)
        go_wp2_with (first
          | (refine wpList_load_at rfl 47 (.tmp 17) rfl b (o + i * 34) rfl (ecK x) _ HRG.out Tryd.underlying47 rfl (infoKs x) ?_)
          | (refine wpList_fresh rfl 47 (.tmp 5) (.tmp 18) rfl (ecK x).toArray _ _ rfl rfl (infoKa x) (ecK_sz x) (all_of_one (ecK_one x)) ?_; intro W hb1 hr1 hz1; have HM1 := Lib.hid (HM.out.go hb1); have c0 : W.cell? ⟨wr.heap.size, 1, none⟩ = some (.int .u32 x.n) := cell_of_row _ _ 1 _ _ _ hr1; have HRH := Lib.hid (show W.rangeAt wr.heap.size 2 (u8s x.hs) from rangeAt_row hr1 (fun a v hv => by unfold ecK; rw [fix_of HXL.out, List.getElem?_toArray, Nat.add_comm 2 a]; exact hv)); clear hr1 hz1 hb1 HM HRG)
          | (refine wpList_load_at rfl 45 (.tmp 22) rfl wr.heap.size 2 rfl (u8s x.hs) _ HRH.out Tryd.underlying45 rfl HAI.out ?_)
          | (refine wpList_plain rfl (fun K1 hK1 => op_oneK (.tmp 24) y rfl rfl (hK1 _ _ ?_)); have hal : Below W.heap.size W (W.alloc (.cells (ecK y).toArray 47)) := (Below.refl _ _).alloc (Nat.le_refl _) _; have HM2 := Lib.hid (HM1.out.go hal); have HX2 := Lib.hid (heap_alloc_new W (.cells (ecK y).toArray 47)); clear hal HM1)
          | (refine wpList_plain rfl (fun K1 hK1 => op_catK HM2.out y W.heap.size 1 HX2.out (by have := HDL.out; omega) (.tmp 19) (.tmp 25) rfl rfl rfl (fun v5 w5 hm5 hg5 hat5 => hK1 _ _ ?_)); obtain ⟨A5, n5, c5, rfl⟩ : ∃ A n c, v5 = .slice A n c := (by obtain ⟨A, c, h, _⟩ := hm5.ls ecK_len; exact ⟨A, _, c, h⟩); have HM5 := Lib.hid hm5; clear hm5 hg5 hat5))
        exact ⟨⟨i + 1, D ++ [y], by omega, by go_num, HDN.out, HLN.out, HM5.out⟩, by simp [intOf] <;> omega⟩
      · have HE := Lib.hid (show D = (K).map nmK by have h := Hid.out hD; rwa [List.take_of_length_le (by rw [← HK.out]; omega)] at h)
        have HM := Lib.hid (Hid.out hmk)
        clear hD hmk
        go_wp2
        go_ret
        exact ⟨_, rfl, by rw [HX.out, ← HE.out]; exact HM.out⟩
  · have q2 : ((kd : Int) == 2) = false := by rw [beq_eq_false_iff_ne]; omega
    by_cases h3 : kd = 3
    · have q3 : ((kd : Int) == 3) = true := by rw [h3]; rfl
      have HX := Lib.hid (show nmN ⟨kd, I, K, V⟩ = (V.filter isV).map nmV by unfold nmN; rw [if_neg h2, if_pos h3])
      have HWX := Lib.hid (show ∀ x ∈ V, x.hs.length = 32 from fun x hx => (wV x hx).2.2.2)
      have HSM := Lib.hid (show nV ≤ 2513169434915 by rw [hV]; exact hs2)
      have HV := Lib.hid hV
      have HLX := Lib.hid lV
      clear h2 h3 hI hK hV lI lK lV wK wV hs1 hs2
      go_enter Tryd.func24, Tryd.ntmps24
      go_wp2_with fail
      generalize w.alloc _ = w0 at *
      go_loopw [3, 33] (fun av v wr => ∃ (i : Nat) (D : List Kd), i ≤ nV ∧ v = .int .i64 i ∧ Hid (D = ((V.take i).filter isV).map nmV) ∧ Hid (D.length ≤ i) ∧ Hid (MkK w wr av D)) (fun _ v _ => nV - (intOf v).toNat)
      case atStart => exact ⟨0, [], Nat.zero_le _, by go_num, rfl, Nat.le_refl _, Mk.nil HB0.out⟩
      case round =>
        obtain ⟨i, D, hi, rfl, hD, hDl, hmk⟩ := hrel
        by_cases hlt : i < nV
        · obtain ⟨x, hx⟩ : ∃ x, V[i]? = some x := ⟨_, List.getElem?_eq_getElem (by rw [← HV.out]; exact hlt)⟩
          have HXL := Lib.hid (HWX.out x (List.mem_of_getElem? hx))
          have HDL := Lib.hid (show D.length ≤ 2513169434915 by have h := Hid.out hDl; have := HSM.out; omega)
          obtain ⟨b, o, hAe, hb, hr⟩ := (HLX.out.below (Hid.out hmk).2) i x hx
          have hbs : b < wr.heap.size := Nat.lt_of_lt_of_le hb (Hid.out hmk).2.size
          have HRG := Lib.hid hr
          have HM := Lib.hid (Hid.out hmk)
          have HAI := Lib.hid (arr_info x.hs HXL.out)
          have HXX := Lib.hid hx
          obtain ⟨y, hy⟩ : ∃ y, nmV x = y := ⟨_, rfl⟩
          have hb1 := kid_built y (by rw [← hy]; rfl) (by rw [← hy]; exact HXL.out)
          rw [show y.n = x.rt by rw [← hy]; rfl, show y.hs = x.hs by rw [← hy]; rfl] at hb1
          have HY := Lib.hid hy
          have hz1 : (u8s x.hs).length = 32 := by rw [u8s_length, HXL.out]
          have hz2 : x.hs.length = 32 := HXL.out
          clear hr hx hmk hy
          subst hAe
          by_cases hv0 : x.rt = 0
          · have qv : ((x.rt : Int) != 0) = false := by rw [hv0]; rfl
            have HDN := Lib.hid (show D = ((V.take (i + 1)).filter isV).map nmV by rw [filt_snoc HXX.out, if_neg (by simp [isV, hv0]), List.append_nil]; exact Hid.out hD)
            have HLN := Lib.hid (show D.length ≤ i + 1 from Nat.le_succ_of_le (Hid.out hDl))
            clear hv0
            go_wp2_with (first
              | (refine wpList_load_at rfl 62 (.tmp 35) rfl b (o + i * 37) rfl (ecV x) _ HRG.out Tryd.underlying62 rfl (infoVs x) ?_)
              | (refine wpList_fresh rfl 62 (.tmp 7) (.tmp 36) rfl (ecV x).toArray _ _ rfl rfl (infoVa x) (ecV_sz x) (all_of_one (ecV_one x)) ?_; intro W hb1 hr1 hz1; have HM1 := Lib.hid (HM.out.go hb1); have c0 : W.cell? ⟨wr.heap.size, 4, none⟩ = some (.int .u32 x.rt) := cell_of_row _ _ 4 _ _ _ hr1; have HRH := Lib.hid (show W.rangeAt wr.heap.size 5 (u8s x.hs) from rangeAt_row hr1 (fun a v hv => by unfold ecV; rw [fix_of HXL.out, List.getElem?_toArray, Nat.add_comm 5 a]; exact hv)); clear hr1 hz1 hb1 HM HRG))
            exact ⟨⟨i + 1, D, by omega, by go_num, HDN.out, HLN.out, HM1.out⟩, by simp [intOf] <;> omega⟩
          · have qv : ((x.rt : Int) != 0) = true := by rw [bne_iff_ne]; omega
            have HDN := Lib.hid (show D ++ [y] = ((V.take (i + 1)).filter isV).map nmV by rw [filt_snoc HXX.out, if_pos (by simp [isV, hv0]), ← Hid.out hD, HY.out])
            have HLN := Lib.hid (show (D ++ [y]).length ≤ i + 1 by rw [List.length_append]; have h := Hid.out hDl; simp; exact h)
            clear hv0
            go_wp2_with (first
              | (refine wpList_load_at rfl 62 (.tmp 35) rfl b (o + i * 37) rfl (ecV x) _ HRG.out Tryd.underlying62 rfl (infoVs x) ?_)
              | (refine wpList_fresh rfl 62 (.tmp 7) (.tmp 36) rfl (ecV x).toArray _ _ rfl rfl (infoVa x) (ecV_sz x) (all_of_one (ecV_one x)) ?_; intro W hb1 hr1 hz1; have HM1 := Lib.hid (HM.out.go hb1); have c0 : W.cell? ⟨wr.heap.size, 4, none⟩ = some (.int .u32 x.rt) := cell_of_row _ _ 4 _ _ _ hr1; have HRH := Lib.hid (show W.rangeAt wr.heap.size 5 (u8s x.hs) from rangeAt_row hr1 (fun a v hv => by unfold ecV; rw [fix_of HXL.out, List.getElem?_toArray, Nat.add_comm 5 a]; exact hv)); clear hr1 hz1 hb1 HM HRG)
              | (refine wpList_load_at rfl 45 (.tmp 43) rfl wr.heap.size 5 rfl (u8s x.hs) _ HRH.out Tryd.underlying45 rfl HAI.out ?_)
              | (refine wpList_plain rfl (fun K1 hK1 => op_oneK (.tmp 45) y rfl rfl (hK1 _ _ ?_)); have hal : Below W.heap.size W (W.alloc (.cells (ecK y).toArray 47)) := (Below.refl _ _).alloc (Nat.le_refl _) _; have HM2 := Lib.hid (HM1.out.go hal); have HX2 := Lib.hid (heap_alloc_new W (.cells (ecK y).toArray 47)); clear hal HM1)
              | (refine wpList_plain rfl (fun K1 hK1 => op_catK HM2.out y W.heap.size 1 HX2.out (by have := HDL.out; omega) (.tmp 40) (.tmp 46) rfl rfl rfl (fun v5 w5 hm5 hg5 hat5 => hK1 _ _ ?_)); obtain ⟨A5, n5, c5, rfl⟩ : ∃ A n c, v5 = .slice A n c := (by obtain ⟨A, c, h, _⟩ := hm5.ls ecK_len; exact ⟨A, _, c, h⟩); have HM5 := Lib.hid hm5; clear hm5 hg5 hat5))
            exact ⟨⟨i + 1, D ++ [y], by omega, by go_num, HDN.out, HLN.out, HM5.out⟩, by simp [intOf] <;> omega⟩
        · have HE := Lib.hid (show D = ((V).filter isV).map nmV by have h := Hid.out hD; rwa [List.take_of_length_le (by rw [← HV.out]; omega)] at h)
          have HM := Lib.hid (Hid.out hmk)
          clear hD hmk
          go_wp2
          go_ret
          exact ⟨_, rfl, by rw [HX.out, ← HE.out]; exact HM.out⟩
    · have q3 : ((kd : Int) == 3) = false := by rw [beq_eq_false_iff_ne]; omega
      have HX := Lib.hid (show nmN ⟨kd, I, K, V⟩ = [] by unfold nmN; rw [if_neg h2, if_neg h3])
      clear h2 h3 hI hK hV lI lK lV wK wV hs1 hs2
      go_enter Tryd.func24, Tryd.ntmps24
      go_wp2
      go_ret
      exact ⟨_, rfl, by rw [HX.out]; exact Mk.nil HB0.out⟩
theorem nmN_len (n : Nd) (h1 : n.K.length ≤ 2513169434915) (h2 : n.V.length ≤ 2513169434915) : (nmN n).length ≤ 2513169434915 := by
  unfold nmN
  split
  · rw [List.length_map]; exact h1
  · split
    · rw [List.length_map]; exact Nat.le_trans (List.length_filter_le _ _) h2
    · exact Nat.zero_le _
/-- a node's kids, by number -/
def kdN (n : Nd) : List Nat := (nmN n).map (·.n)
set_option maxRecDepth 100000 in
set_option maxHeartbeats 4000000 in
theorem kids_any (n : Nd) (hw : Wd n) (hs1 : n.K.length ≤ 2513169434915) (hs2 : n.V.length ≤ 2513169434915) (cs : Array Value) (w : World) (hn : NdAt w cs n) :
    Calls Tryd.prog 15 #[.agg cs] w fun e w' => ∃ v, e = .returned v ∧ MkU w w' v (kdN n) := by
  have HI := Lib.hid (info4 hn.size)
  have HB0 := Lib.hid (show Below w.heap.size w (w.alloc (.cells cs 27)) from (Below.refl _ _).alloc (Nat.le_refl _) _)
  have HR0 := Lib.hid (heap_alloc_new w (.cells cs 27))
  have HC := Lib.hid (fun w' (hb : Below w.heap.size w w') => named_any n hw hs1 hs2 cs w' (hn.below hb))
  have HLN := Lib.hid (nmN_len n hs1 hs2)
  unfold kdN
  generalize nmN n = D at *
  clear hn hs1 hs2 hw
  go_enter Tryd.func15, Tryd.ntmps15
  go_wp2_with (first
    | (refine wpList_load_row rfl 27 (.tmp 1) rfl w.heap.size rfl 27 cs (0, 0) _ HR0.out Tryd.underlying27 rfl HI.out ?_)
    | (go_at_call 24; refine (HC.out _ HB0.out).mono ?_; rintro e w3 ⟨v3, rfl, hm3⟩; have HM3 := Lib.hid hm3; have HB3 := Lib.hid (HB0.out.trans (hm3.2.mono HB0.out.size)); obtain ⟨A3, n3, c3, rfl, hn3, hl3⟩ : ∃ A n c, v3 = .slice A n c ∧ n = D.length ∧ Ls ecK 34 w3 w3.heap.size A D := (by obtain ⟨A, c, h, _, _, h2⟩ := hm3.ls ecK_len; exact ⟨A, _, c, h, rfl, h2⟩); have HN3 := Lib.hid hn3; have HL3 := Lib.hid hl3; clear hm3 hn3 hl3))
  have HSM := Lib.hid (show n3 ≤ 2513169434915 by rw [HN3.out]; exact HLN.out)
  have hsm := HSM.out
  go_loopw [3, 9] (fun av v wr => ∃ (i : Nat) (E : List Nat), i ≤ n3 ∧ v = .int .i64 i ∧ Hid (E = (D.take i).map (·.n)) ∧ Hid (E.length ≤ i) ∧ Hid (MkU w3 wr av E)) (fun _ v _ => n3 - (intOf v).toNat)
  case atStart => exact ⟨0, [], Nat.zero_le _, by go_num, rfl, Nat.le_refl _, Mk.nil (Below.refl _ _)⟩
  case round =>
    obtain ⟨i, E, hi, rfl, hE, hEl, hmk⟩ := hrel
    by_cases hlt : i < n3
    · obtain ⟨x, hx⟩ : ∃ x, D[i]? = some x := ⟨_, List.getElem?_eq_getElem (by rw [← HN3.out]; exact hlt)⟩
      have HDL := Lib.hid (show E.length ≤ 2513169434915 by have h := Hid.out hEl; have := HSM.out; omega)
      obtain ⟨b, o, hAe, hb, hr⟩ := (HL3.out.below (Hid.out hmk).2) i x hx
      have hbs : b < wr.heap.size := Nat.lt_of_lt_of_le hb (Hid.out hmk).2.size
      have HRG := Lib.hid hr
      have HM := Lib.hid (Hid.out hmk)
      have HDN := Lib.hid (show E ++ [x.n] = (D.take (i + 1)).map (·.n) by rw [map_snoc (·.n) hx, ← Hid.out hE])
      have HLN2 := Lib.hid (show (E ++ [x.n]).length ≤ i + 1 by rw [List.length_append]; have h := Hid.out hEl; simp; exact h)
      clear hr hmk hx
      subst hAe
      go_wp2_with (first
        | (refine wpList_load_at rfl 47 (.tmp 11) rfl b (o + i * 34) rfl (ecK x) _ HRG.out Tryd.underlying47 rfl (infoKs x) ?_)
        | (refine wpList_fresh rfl 47 (.tmp 5) (.tmp 12) rfl (ecK x).toArray _ _ rfl rfl (infoKa x) (ecK_sz x) (all_of_one (ecK_one x)) ?_; intro W hb1 hr1 hz1; have HM1 := Lib.hid ((HM.out.go hb1).alloc (.cells #[.int .u32 x.n] 44)); have HX2 := Lib.hid (heap_alloc_new W (.cells #[.int .u32 x.n] 44)); have c0 : W.cell? ⟨wr.heap.size, 1, none⟩ = some (.int .u32 x.n) := cell_of_row _ _ 1 _ _ _ hr1; clear hr1 hz1 hb1 HM HRG)
        | (refine wpList_plain rfl (fun K1 hK1 => op_catU HM1.out x.n W.heap.size 1 HX2.out (by have := HDL.out; omega) (.tmp 13) (.tmp 16) rfl rfl rfl (fun v5 w5 hm5 hg5 hat5 => hK1 _ _ ?_)); obtain ⟨A5, n5, c5, rfl⟩ : ∃ A n c, v5 = .slice A n c := (by obtain ⟨A, c, h, _⟩ := hm5.ls (show ∀ x, (enU x).length = 1 from fun _ => rfl); exact ⟨A, _, c, h⟩); have HM5 := Lib.hid hm5; clear hm5 hg5 hat5))
      exact ⟨⟨i + 1, E ++ [x.n], by omega, by go_num, HDN.out, HLN2.out, HM5.out⟩, by simp [intOf] <;> omega⟩
    · have HE := Lib.hid (show E = D.map (·.n) by have h := Hid.out hE; rwa [List.take_of_length_le (by rw [← HN3.out]; omega)] at h)
      have HM := Lib.hid ((Hid.out hmk).since HB3.out)
      clear hE hmk
      go_wp2
      go_ret
      exact ⟨_, rfl, by rw [← HE.out]; exact HM.out⟩
end Go.Proofs.YtmibgdlmhjkpfaaDoor.Nd
