/- Contracts of package node's textSize, Size (of entries that are right). -/
import Derived.Test.YtlpejbbmemhloaaGreatDoorNdK
import Derived.Test.YtlpejbbmemhloaaGreatDoorJtC
import Derived.IntWalk
namespace Go.Proofs.YtlpejbbmemhloaaGreatDoor.Nd
set_option linter.unusedVariables false
open Go.ChangeShapes Go.WideShapes Go.ChangeAt Go.RowKit
open Ar Rg
open BigFrame
open Pk (u8s u8s_length)
open It (str_le below_drewN)
theorem textSize_any (t : ByteArray) (h : t.size ≤ 1000000) (w : World) :
    Calls Tryz.prog 109 #[.string t] w fun e w' => e = .returned (.int .i64 (1 + (t.size : Int))) ∧ w = w' := by
  go_enter Tryz.func109, Tryz.ntmps109
  go_wp2
  go_ret
  exact ⟨rfl, rfl⟩
theorem textSize_at (t : ByteArray) (h : t.size ≤ 1000000) (w : World) :
    Calls Tryz.prog 109 #[.string t] w fun e w' => e = .returned (.int .i64 (1 + (t.size : Int))) ∧ w' = w := (textSize_any t h w).mono fun e w' h => ⟨h.1, h.2.symm⟩
section
variable {α : Type}
theorem sum_snoc (f : α → Nat) {D : List α} {i : Nat} {x : α} (h : D[i]? = some x) : ((D.take (i + 1)).map f).sum = ((D.take i).map f).sum + f x := by
  obtain ⟨hk, e⟩ := List.getElem?_eq_some_iff.1 h
  rw [List.take_succ_eq_append_getElem hk, e, List.map_append, List.sum_append]
  simp
end
/-- entries that are not too many and not too long -/
structure Few (n : Nd) : Prop where
  I : n.kd = 1 → n.I.length ≤ 255 ∧ ∀ x ∈ n.I, x.k.size ≤ 48 ∧ x.v.size ≤ 160
  K : n.kd = 2 → n.K.length ≤ 255 ∧ ∀ x ∈ n.K, x.k.size ≤ 48
  V : n.kd = 3 → n.V.length ≤ 6 ∧ ∀ x ∈ n.V, x.nm.size ≤ 16 ∧ x.fr.size ≤ 16
theorem rt_few {n : Nd} (h : rtN n = true) : Few n := by
  obtain ⟨kd, I, K, V⟩ := n
  unfold rtN at h
  dsimp only at h
  refine ⟨fun e => ?_, fun e => ?_, fun e => ?_⟩
  · dsimp only at e ⊢
    rw [if_pos e] at h
    simp only [Bool.and_eq_true, decide_eq_true_eq, okCount] at h
    obtain ⟨_, _, ⟨_, hc⟩, hr⟩ := h
    refine ⟨hc, fun x hx => ?_⟩
    have := rtI_all none I hr x hx
    simp only [It.okI, It.okKey, Bool.and_eq_true, decide_eq_true_eq] at this
    omega
  · dsimp only at e ⊢
    rw [if_neg (by omega), if_pos e] at h
    simp only [Bool.and_eq_true, decide_eq_true_eq, okCount] at h
    obtain ⟨_, _, ⟨_, hc⟩, hr⟩ := h
    refine ⟨hc, fun x hx => ?_⟩
    have := rtK_all none K hr x hx
    simp only [okK, Bool.and_eq_true, decide_eq_true_eq] at this
    omega
  · dsimp only at e ⊢
    rw [if_neg (by omega), if_neg (by omega), if_pos e] at h
    simp only [Bool.and_eq_true, decide_eq_true_eq] at h
    obtain ⟨_, _, hc, hr⟩ := h
    refine ⟨hc, fun x hx => ?_⟩
    have := rtV_all none V hr x hx
    simp only [okV, Bool.and_eq_true, decide_eq_true_eq] at this
    omega
/-- a node's cells, its slices lying in memory -/
def NdAt (w : World) (cs : Array Value) (n : Nd) : Prop :=
  ∃ AI nI cI AK nK cK AV nV cV, cs = #[.int .u8 n.kd, .slice AI nI cI, .slice AK nK cK, .slice AV nV cV] ∧ nI = n.I.length ∧ nK = n.K.length ∧ nV = n.V.length ∧ nI ≤ 281474976710656 ∧ nK ≤ 281474976710656 ∧ nV ≤ 281474976710656 ∧
    Ls It.enc 2 w w.heap.size AI n.I ∧ Ls ecK 34 w w.heap.size AK n.K ∧ Ls ecV 37 w w.heap.size AV n.V
theorem NdAt.below {w w' : World} {cs : Array Value} {n : Nd} (h : NdAt w cs n) (hb : Below w.heap.size w w') : NdAt w' cs n := by
  obtain ⟨AI, nI, cI, AK, nK, cK, AV, nV, cV, e, h1, h2, h3, b1, b2, b3, l1, l2, l3⟩ := h
  exact ⟨AI, nI, cI, AK, nK, cK, AV, nV, cV, e, h1, h2, h3, b1, b2, b3, (l1.below hb).more hb.size, (l2.below hb).more hb.size, (l3.below hb).more hb.size⟩
theorem NdAt.size {w : World} {cs : Array Value} {n : Nd} (h : NdAt w cs n) : cs.size = 4 := by
  obtain ⟨AI, nI, cI, AK, nK, cK, AV, nV, cV, rfl, _⟩ := h; rfl
set_option maxRecDepth 100000 in
set_option maxHeartbeats 4000000 in
theorem size_any (n : Nd) (hf : Few n) (cs : Array Value) (w : World) (hn : NdAt w cs n) :
    Calls Tryz.prog 82 #[.agg cs] w fun e w' => e = .returned (.int .i64 (szN n : Nat)) ∧ Below w.heap.size w w' ∧ szN n ≤ 1000000 := by
  obtain ⟨AI, nI, cI, AK, nK, cK, AV, nV, cV, rfl, hI, hK, hV, bI, bK, bV, lI, lK, lV⟩ := hn
  obtain ⟨kd, I, K, V⟩ := n
  dsimp only at hI hK hV lI lK lV ⊢
  have HB0 := Lib.hid (show Below w.heap.size w (w.alloc (.cells #[.int .u8 (kd : Int), .slice AI nI cI, .slice AK nK cK, .slice AV nV cV] 31)) from (Below.refl _ _).alloc (Nat.le_refl _) _)
  have HI := Lib.hid hI
  have HK := Lib.hid hK
  have HV := Lib.hid hV
  have HLI := Lib.hid lI
  have HLK := Lib.hid lK
  have HLV := Lib.hid lV
  clear hI hK hV lI lK lV
  by_cases h1 : kd = 1
  · have q1 : ((kd : Int) == 1) = true := by rw [h1]; rfl
    have HF := Lib.hid (hf.I h1)
    dsimp only at HF
    have hn := HF.out.1
    rw [← HI.out] at hn
    obtain ⟨Z, hZ⟩ : ∃ Z, szN ⟨kd, I, K, V⟩ = Z := ⟨_, rfl⟩
    have HZ := Lib.hid (show 2 + (I.map szI).sum = Z by rw [← hZ]; unfold szN; rw [if_pos h1])
    rw [hZ]
    clear hZ h1 hf HLK HLV HK HV
    go_enter Tryz.func82, Tryz.ntmps82
    go_wp2_with fail
    generalize w.alloc _ = w0 at *
    go_loopw [3, 17] (fun av v wr => ∃ i a : Nat, i ≤ nI ∧ v = .int .i64 i ∧ av = .int .i64 a ∧ a ≤ 2 + i * 300 ∧ Hid (a = 2 + ((I.take i).map szI).sum) ∧ Hid (Below w.heap.size w wr)) (fun _ v _ => nI - (intOf v).toNat)
    case atStart => exact ⟨0, 2, Nat.zero_le _, by go_num, rfl, by omega, rfl, HB0.out⟩
    case round =>
      obtain ⟨i, a, hi, rfl, rfl, ha, hsum, hbel⟩ := hrel
      by_cases hlt : i < nI
      · obtain ⟨x, hx⟩ : ∃ x, I[i]? = some x := ⟨_, List.getElem?_eq_getElem (by rw [← HI.out]; exact hlt)⟩
        have hxs := HF.out.2 x (List.mem_of_getElem? hx)
        obtain ⟨b, o, hAe, hb, hr⟩ := (HLI.out.below (Hid.out hbel)) i x hx
        have hbs : b < wr.heap.size := Nat.lt_of_lt_of_le hb (Hid.out hbel).size
        have HS := Lib.hid (show a + szI x = 2 + ((I.take (i + 1)).map szI).sum by rw [sum_snoc szI hx, Hid.out hsum]; omega)
        unfold szI at HS
        have hc0 : wr.cell? ⟨b, o + i * 2, none⟩ = some (.string x.k) := hr 0 _ rfl
        have hc1 : wr.cell? ⟨b, o + i * 2 + 1, none⟩ = some (.string x.v) := hr 1 _ rfl
        have HBN := Lib.hid (show Below w.heap.size w (wr.alloc (.cells #[.string x.k, .string x.v] 63)) from (Hid.out hbel).alloc (Hid.out hbel).size _)
        have hk : x.k.size ≤ 1000000 := by omega
        have hv : x.v.size ≤ 1000000 := by omega
        obtain ⟨hk2, hv2⟩ := hxs
        have hal0 : (wr.alloc (.cells #[.string x.k, .string x.v] 63)).cell? ⟨wr.heap.size, 0, none⟩ = some (.string x.k) := by simp
        have hal1 : (wr.alloc (.cells #[.string x.k, .string x.v] 63)).cell? ⟨wr.heap.size, 1, none⟩ = some (.string x.v) := by simp
        clear hr hx hsum hbel
        subst hAe
        go_wp2_with fail
        generalize wr.alloc _ = W1 at *
        have e1 : IntKind.i64.wrap (1 + (x.k.size : Int) + (1 + (x.v.size : Int))) = 1 + (x.k.size : Int) + (1 + (x.v.size : Int)) := IntWalk.i64_in _ (by omega)
        have e2 : IntKind.i64.wrap ((a : Int) + (1 + (x.k.size : Int) + (1 + (x.v.size : Int)))) = ((a + (2 + x.k.size + x.v.size) : Nat) : Int) := by rw [IntWalk.i64_in _ (by omega)]; omega
        go_quiet ((go_at_call 109; exact Calls.quiet_of_same (textSize_at _ (by assumption) _)))
        have HB2 := Lib.hid (below_drewN HBN.out nq)
        clear HBN e1 e2
        generalize World.drewN _ _ = W2 at *
        go_wp2
        exact ⟨⟨i + 1, a + (2 + x.k.size + x.v.size), by omega, by go_num, rfl, by omega, HS.out, HB2.out⟩, by simp [intOf] <;> omega⟩
      · have HE := Lib.hid (show a = Z by have h := Hid.out hsum; rw [List.take_of_length_le (by rw [← HI.out]; omega), HZ.out] at h; exact h)
        have HA := Lib.hid (show Z ≤ 1000000 by rw [← HE.out]; omega)
        go_wp2
        go_ret
        exact ⟨by rw [HE.out]; rfl, Hid.out hbel, HA.out⟩
  have q1 : ((kd : Int) == 1) = false := by rw [beq_eq_false_iff_ne]; omega
  by_cases h2 : kd = 2
  · have q2 : ((kd : Int) == 2) = true := by rw [h2]; rfl
    have HF := Lib.hid (hf.K h2)
    dsimp only at HF
    have hn := HF.out.1
    rw [← HK.out] at hn
    obtain ⟨Z, hZ⟩ : ∃ Z, szN ⟨kd, I, K, V⟩ = Z := ⟨_, rfl⟩
    have HZ := Lib.hid (show 2 + (K.map szK).sum = Z by rw [← hZ]; unfold szN; rw [if_neg h1, if_pos h2])
    rw [hZ]
    clear hZ h1 h2 hf HLI HLV HI HV
    go_enter Tryz.func82, Tryz.ntmps82
    go_wp2_with fail
    generalize w.alloc _ = w0 at *
    go_loopw [3, 36] (fun av v wr => ∃ i a : Nat, i ≤ nK ∧ v = .int .i64 i ∧ av = .int .i64 a ∧ a ≤ 2 + i * 300 ∧ Hid (a = 2 + ((K.take i).map szK).sum) ∧ Hid (Below w.heap.size w wr)) (fun _ v _ => nK - (intOf v).toNat)
    case atStart => exact ⟨0, 2, Nat.zero_le _, by go_num, rfl, by omega, rfl, HB0.out⟩
    case round =>
      obtain ⟨i, a, hi, rfl, rfl, ha, hsum, hbel⟩ := hrel
      by_cases hlt : i < nK
      · obtain ⟨x, hx⟩ : ∃ x, K[i]? = some x := ⟨_, List.getElem?_eq_getElem (by rw [← HK.out]; exact hlt)⟩
        have hxs := HF.out.2 x (List.mem_of_getElem? hx)
        obtain ⟨b, o, hAe, hb, hr⟩ := (HLK.out.below (Hid.out hbel)) i x hx
        have hbs : b < wr.heap.size := Nat.lt_of_lt_of_le hb (Hid.out hbel).size
        have HS := Lib.hid (show a + szK x = 2 + ((K.take (i + 1)).map szK).sum by rw [sum_snoc szK hx, Hid.out hsum]; omega)
        unfold szK at HS
        have HRG := Lib.hid hr
        have hk : x.k.size ≤ 1000000 := by omega
        clear hr hx hsum
        subst hAe
        go_wp2_with (first
          | (refine wpList_load_at rfl 45 (.tmp 38) rfl b (o + i * 34) rfl (ecK x) _ HRG.out Tryz.underlying45 rfl (infoKs x) ?_)
          | (refine wpList_fresh rfl 45 (.tmp 7) (.tmp 39) rfl (ecK x).toArray _ _ rfl rfl (infoKa x) (ecK_sz x) (all_of_one (ecK_one x)) ?_; intro W1 hb1 hr1 hz1; have HBN := Lib.hid ((Hid.out hbel).trans (hb1.mono (Hid.out hbel).size)); have c0 : W1.cell? ⟨wr.heap.size, 0, none⟩ = some (.string x.k) := cell_of_row _ _ 0 _ _ _ hr1; clear hr1 hz1 hb1 hbel HRG)
          | (go_at_call 109; refine (textSize_any _ (by assumption) _).mono ?_; rintro e w' ⟨rfl, rfl⟩))
        exact ⟨⟨i + 1, a + (37 + x.k.size), by omega, by go_num, by go_num, by omega, HS.out, HBN.out⟩, by simp [intOf] <;> omega⟩
      · have HE := Lib.hid (show a = Z by have h := Hid.out hsum; rw [List.take_of_length_le (by rw [← HK.out]; omega), HZ.out] at h; exact h)
        have HA := Lib.hid (show Z ≤ 1000000 by rw [← HE.out]; omega)
        go_wp2
        go_ret
        exact ⟨by rw [HE.out]; rfl, Hid.out hbel, HA.out⟩
  have q2 : ((kd : Int) == 2) = false := by rw [beq_eq_false_iff_ne]; omega
  by_cases h3 : kd = 3
  · have q3 : ((kd : Int) == 3) = true := by rw [h3]; rfl
    have HF := Lib.hid (hf.V h3)
    dsimp only at HF
    have hn := HF.out.1
    rw [← HV.out] at hn
    obtain ⟨Z, hZ⟩ : ∃ Z, szN ⟨kd, I, K, V⟩ = Z := ⟨_, rfl⟩
    have HZ := Lib.hid (show 2 + (V.map szV).sum = Z by rw [← hZ]; unfold szN; rw [if_neg h1, if_neg h2, if_pos h3])
    rw [hZ]
    clear hZ h1 h2 h3 hf HLI HLK HI HK
    go_enter Tryz.func82, Tryz.ntmps82
    go_wp2_with fail
    generalize w.alloc _ = w0 at *
    go_loopw [3, 53] (fun av v wr => ∃ i a : Nat, i ≤ nV ∧ v = .int .i64 i ∧ av = .int .i64 a ∧ a ≤ 2 + i * 300 ∧ Hid (a = 2 + ((V.take i).map szV).sum) ∧ Hid (Below w.heap.size w wr)) (fun _ v _ => nV - (intOf v).toNat)
    case atStart => exact ⟨0, 2, Nat.zero_le _, by go_num, rfl, by omega, rfl, HB0.out⟩
    case round =>
      obtain ⟨i, a, hi, rfl, rfl, ha, hsum, hbel⟩ := hrel
      by_cases hlt : i < nV
      · obtain ⟨x, hx⟩ : ∃ x, V[i]? = some x := ⟨_, List.getElem?_eq_getElem (by rw [← HV.out]; exact hlt)⟩
        have hxs := HF.out.2 x (List.mem_of_getElem? hx)
        obtain ⟨b, o, hAe, hb, hr⟩ := (HLV.out.below (Hid.out hbel)) i x hx
        have hbs : b < wr.heap.size := Nat.lt_of_lt_of_le hb (Hid.out hbel).size
        have HS := Lib.hid (show a + szV x = 2 + ((V.take (i + 1)).map szV).sum by rw [sum_snoc szV hx, Hid.out hsum]; omega)
        unfold szV at HS
        have HRG := Lib.hid hr
        have hk : x.nm.size ≤ 1000000 := by omega
        have hv : x.fr.size ≤ 1000000 := by omega
        obtain ⟨hk2, hv2⟩ := hxs
        clear hr hx hsum
        subst hAe
        go_wp2_with (first
          | (refine wpList_load_at rfl 121 (.tmp 55) rfl b (o + i * 37) rfl (ecV x) _ HRG.out Tryz.underlying121 rfl (infoVs x) ?_)
          | (refine wpList_fresh rfl 121 (.tmp 9) (.tmp 56) rfl (ecV x).toArray _ _ rfl rfl (infoVa x) (ecV_sz x) (all_of_one (ecV_one x)) ?_; intro W1 hb1 hr1 hz1; have HBN := Lib.hid ((Hid.out hbel).trans (hb1.mono (Hid.out hbel).size)); have c0 : W1.cell? ⟨wr.heap.size, 0, none⟩ = some (.string x.nm) := cell_of_row _ _ 0 _ _ _ hr1; have c2 : W1.cell? ⟨wr.heap.size, 2, none⟩ = some (.string x.fr) := cell_of_row _ _ 2 _ _ _ hr1; clear hr1 hz1 hb1 hbel HRG))
        obtain ⟨u, hu⟩ : ∃ u, u = 47 + x.nm.size + x.fr.size := ⟨_, rfl⟩
        have hu1 : u ≤ 300 := by omega
        have e1 : IntKind.i64.wrap (1 + (x.nm.size : Int) + (1 + (x.fr.size : Int))) = (u : Int) - 45 := by rw [IntWalk.i64_in _ (by omega)]; omega
        have e2 : IntKind.i64.wrap ((u : Int) - 45 + 1) = (u : Int) - 44 := by rw [IntWalk.i64_in _ (by omega)]; omega
        have e3 : IntKind.i64.wrap ((u : Int) - 44 + 8) = (u : Int) - 36 := by rw [IntWalk.i64_in _ (by omega)]; omega
        have e4 : IntKind.i64.wrap ((u : Int) - 36 + 4) = (u : Int) - 32 := by rw [IntWalk.i64_in _ (by omega)]; omega
        have e5 : IntKind.i64.wrap ((u : Int) - 32 + 32) = (u : Int) := by rw [IntWalk.i64_in _ (by omega)]; omega
        have e6 : IntKind.i64.wrap ((a : Int) + (u : Int)) = ((a + u : Nat) : Int) := by rw [IntWalk.i64_in _ (by omega)]; omega
        rw [← hu] at HS
        clear hu
        go_quiet ((go_at_call 109; exact Calls.quiet_of_same (textSize_at _ (by assumption) _)))
        have HB2 := Lib.hid (below_drewN HBN.out nq)
        clear HBN e1 e2 e3 e4 e5 e6
        generalize World.drewN _ _ = W2 at *
        go_wp2
        exact ⟨⟨i + 1, a + u, by omega, by go_num, (by rw [IntWalk.i64_in (u : Int) (by omega), IntWalk.i64_in ((a : Int) + (u : Int)) (by omega)]; go_num), by omega, HS.out, HB2.out⟩, by simp [intOf] <;> omega⟩
      · have HE := Lib.hid (show a = Z by have h := Hid.out hsum; rw [List.take_of_length_le (by rw [← HV.out]; omega), HZ.out] at h; exact h)
        have HA := Lib.hid (show Z ≤ 1000000 by rw [← HE.out]; omega)
        go_wp2
        go_ret
        exact ⟨by rw [HE.out]; rfl, Hid.out hbel, HA.out⟩
  · have q3 : ((kd : Int) == 3) = false := by rw [beq_eq_false_iff_ne]; omega
    have HZ := Lib.hid (show szN ⟨kd, I, K, V⟩ = 2 by unfold szN; rw [if_neg h1, if_neg h2, if_neg h3])
    rw [HZ.out]
    clear h1 h2 h3 hf
    go_enter Tryz.func82, Tryz.ntmps82
    go_wp2_with fail
    go_ret
    exact ⟨rfl, HB0.out, by decide⟩
end Go.Proofs.YtlpejbbmemhloaaGreatDoor.Nd
