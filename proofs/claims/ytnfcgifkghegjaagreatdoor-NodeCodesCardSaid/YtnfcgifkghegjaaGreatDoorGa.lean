/- Contracts of package node's Size and of the document's, for any node: sums may wrap round. -/
import Derived.Test.YtnfcgifkghegjaaGreatDoorNdK
import Derived.Test.YtnfcgifkghegjaaGreatDoorNdC
import Derived.BigQuiet
namespace Go.Proofs.YtnfcgifkghegjaaGreatDoor.Nd
set_option linter.unusedVariables false
set_option linter.unusedSimpArgs false
open Go.ChangeShapes Go.WideShapes Go.ChangeAt Go.RowKit
open Ar Rg
open BigFrame
open Pk (u8s u8s_length)
open It (str_le below_drewN)
/-- a sum, wrapped round -/
def w6 (x : Int) : Int := IntKind.i64.wrap x
theorem w6_two (a b : Int) : IntKind.i64.wrap (w6 a + w6 b) = w6 (a + b) := by unfold w6; simp only [IntKind.wrap_i64]; omega
theorem w6_left (a b : Int) : IntKind.i64.wrap (w6 a + b) = w6 (a + b) := by unfold w6; simp only [IntKind.wrap_i64]; omega
theorem w6_of (a : Int) : IntKind.i64.wrap a = w6 a := rfl
theorem w6_in {a : Int} (h : -9223372036854775808 ≤ a ∧ a ≤ 9223372036854775807) : w6 a = a := IntWalk.i64_in a h
theorem textSizeG (t : ByteArray) (w : World) :
    Calls Tryz.prog 31 #[.string t] w fun e w' => e = .returned (.int .i64 (w6 (1 + (t.size : Int)))) ∧ w' = w := by
  have e0 := w6_of (1 + (t.size : Int))
  go_enter Tryz.func31, Tryz.ntmps31
  go_wp2
  go_ret
  exact ⟨rfl, rfl⟩
set_option maxRecDepth 100000 in
set_option maxHeartbeats 4000000 in
theorem sizeG_any (n : Nd) (cs : Array Value) (w : World) (hn : NdAt w cs n) :
    Calls Tryz.prog 14 #[.agg cs] w fun e w' => e = .returned (.int .i64 (w6 ((szN n : Nat) : Int))) ∧ Below w.heap.size w w' := by
  obtain ⟨AI, nI, cI, AK, nK, cK, AV, nV, cV, rfl, hI, hK, hV, bI, bK, bV, lI, lK, lV⟩ := hn
  obtain ⟨kd, I, K, V⟩ := n
  dsimp only at hI hK hV lI lK lV ⊢
  have HB0 := Lib.hid (show Below w.heap.size w (w.alloc (.cells #[.int .u8 (kd : Int), .slice AI nI cI, .slice AK nK cK, .slice AV nV cV] 27)) from (Below.refl _ _).alloc (Nat.le_refl _) _)
  have HI := Lib.hid hI
  have HK := Lib.hid hK
  have HV := Lib.hid hV
  have HLI := Lib.hid lI
  have HLK := Lib.hid lK
  have HLV := Lib.hid lV
  clear hI hK hV lI lK lV
  by_cases h1 : kd = 1
  · have q1 : ((kd : Int) == 1) = true := by rw [h1]; rfl
    obtain ⟨Z, hZ⟩ : ∃ Z, ((szN ⟨kd, I, K, V⟩ : Nat) : Int) = Z := ⟨_, rfl⟩
    have HZ := Lib.hid (show ((2 + (I.map szI).sum : Nat) : Int) = Z by rw [← hZ]; unfold szN; rw [if_pos h1])
    rw [hZ]
    clear hZ h1 HLK HLV HK HV
    go_enter Tryz.func14, Tryz.ntmps14
    go_wp2_with fail
    generalize w.alloc _ = w0 at *
    go_loopw [3, 17] (fun av v wr => ∃ (i : Nat) (a : Int), i ≤ nI ∧ v = .int .i64 i ∧ av = .int .i64 (w6 a) ∧ Hid (a = ((2 + ((I.take i).map szI).sum : Nat) : Int)) ∧ Hid (Below w.heap.size w wr)) (fun _ v _ => nI - (intOf v).toNat)
    case atStart => exact ⟨0, 2, Nat.zero_le _, by go_num, by rw [w6_in (by omega)], rfl, HB0.out⟩
    case round =>
      obtain ⟨i, a, hi, rfl, rfl, hsum, hbel⟩ := hrel
      by_cases hlt : i < nI
      · obtain ⟨x, hx⟩ : ∃ x, I[i]? = some x := ⟨_, List.getElem?_eq_getElem (by rw [← HI.out]; exact hlt)⟩
        obtain ⟨b, o, hAe, hb, hr⟩ := (HLI.out.below (Hid.out hbel)) i x hx
        have hbs : b < wr.heap.size := Nat.lt_of_lt_of_le hb (Hid.out hbel).size
        have HS := Lib.hid (show a + (2 + (x.k.size : Int) + (x.v.size : Int)) = ((2 + ((I.take (i + 1)).map szI).sum : Nat) : Int) by rw [sum_snoc szI hx, Hid.out hsum]; unfold szI; omega)
        have HI1 := Lib.hid (show i + 1 ≤ nI by omega)
        have hc0 : wr.cell? ⟨b, o + i * 2, none⟩ = some (.string x.k) := hr 0 _ rfl
        have hc1 : wr.cell? ⟨b, o + i * 2 + 1, none⟩ = some (.string x.v) := hr 1 _ rfl
        have HBN := Lib.hid (show Below w.heap.size w (wr.alloc (.cells #[.string x.k, .string x.v] 61)) from (Hid.out hbel).alloc (Hid.out hbel).size _)
        have hal0 : (wr.alloc (.cells #[.string x.k, .string x.v] 61)).cell? ⟨wr.heap.size, 0, none⟩ = some (.string x.k) := by simp
        have hal1 : (wr.alloc (.cells #[.string x.k, .string x.v] 61)).cell? ⟨wr.heap.size, 1, none⟩ = some (.string x.v) := by simp
        clear hr hx hsum hbel
        subst hAe
        go_wp2_with fail
        generalize wr.alloc _ = W1 at *
        have e1 : IntKind.i64.wrap (w6 (1 + (x.k.size : Int)) + w6 (1 + (x.v.size : Int))) = w6 (2 + (x.k.size : Int) + (x.v.size : Int)) := by rw [w6_two]; congr 1; omega
        have e2 : IntKind.i64.wrap (w6 a + w6 (2 + (x.k.size : Int) + (x.v.size : Int))) = w6 (a + (2 + (x.k.size : Int) + (x.v.size : Int))) := w6_two _ _
        go_quiet ((go_at_call 31; exact Calls.quiet_of_same (textSizeG _ _)))
        have HB2 := Lib.hid (below_drewN HBN.out nq)
        clear e1 e2
        generalize World.drewN _ _ = W2 at *
        go_wp2
        exact ⟨⟨i + 1, _, HI1.out, by go_num, rfl, HS.out, HB2.out⟩, by simp [intOf] <;> omega⟩
      · have HE := Lib.hid (show a = Z by have h := Hid.out hsum; rw [List.take_of_length_le (by rw [← HI.out]; omega), HZ.out] at h; exact h)
        go_wp2
        go_ret
        exact ⟨by rw [HE.out]; rfl, Hid.out hbel⟩
  have q1 : ((kd : Int) == 1) = false := by rw [beq_eq_false_iff_ne]; omega
  by_cases h2 : kd = 2
  · have q2 : ((kd : Int) == 2) = true := by rw [h2]; rfl
    obtain ⟨Z, hZ⟩ : ∃ Z, ((szN ⟨kd, I, K, V⟩ : Nat) : Int) = Z := ⟨_, rfl⟩
    have HZ := Lib.hid (show ((2 + (K.map szK).sum : Nat) : Int) = Z by rw [← hZ]; unfold szN; rw [if_neg h1, if_pos h2])
    rw [hZ]
    clear hZ h1 h2 HLI HLV HI HV
    go_enter Tryz.func14, Tryz.ntmps14
    go_wp2_with fail
    generalize w.alloc _ = w0 at *
    go_loopw [3, 36] (fun av v wr => ∃ (i : Nat) (a : Int), i ≤ nK ∧ v = .int .i64 i ∧ av = .int .i64 (w6 a) ∧ Hid (a = ((2 + ((K.take i).map szK).sum : Nat) : Int)) ∧ Hid (Below w.heap.size w wr)) (fun _ v _ => nK - (intOf v).toNat)
    case atStart => exact ⟨0, 2, Nat.zero_le _, by go_num, by rw [w6_in (by omega)], rfl, HB0.out⟩
    case round =>
      obtain ⟨i, a, hi, rfl, rfl, hsum, hbel⟩ := hrel
      by_cases hlt : i < nK
      · obtain ⟨x, hx⟩ : ∃ x, K[i]? = some x := ⟨_, List.getElem?_eq_getElem (by rw [← HK.out]; exact hlt)⟩
        obtain ⟨b, o, hAe, hb, hr⟩ := (HLK.out.below (Hid.out hbel)) i x hx
        have hbs : b < wr.heap.size := Nat.lt_of_lt_of_le hb (Hid.out hbel).size
        have HS := Lib.hid (show a + (37 + (x.k.size : Int)) = ((2 + ((K.take (i + 1)).map szK).sum : Nat) : Int) by rw [sum_snoc szK hx, Hid.out hsum]; unfold szK; omega)
        have HI1 := Lib.hid (show i + 1 ≤ nK by omega)
        have HRG := Lib.hid hr
        clear hr hx hsum
        subst hAe
        have e1 : IntKind.i64.wrap (w6 (1 + (x.k.size : Int)) + 4) = w6 (5 + (x.k.size : Int)) := by rw [w6_left]; congr 1; omega
        have e2 : IntKind.i64.wrap (w6 (5 + (x.k.size : Int)) + 32) = w6 (37 + (x.k.size : Int)) := by rw [w6_left]; congr 1; omega
        have e3 : IntKind.i64.wrap (w6 a + w6 (37 + (x.k.size : Int))) = w6 (a + (37 + (x.k.size : Int))) := w6_two _ _
        go_wp2_with (first
          | (refine wpList_load_at rfl 55 (.tmp 38) rfl b (o + i * 34) rfl (ecK x) _ HRG.out Tryz.underlying55 rfl (infoKs x) ?_)
          | (refine wpList_fresh rfl 55 (.tmp 7) (.tmp 39) rfl (ecK x).toArray _ _ rfl rfl (infoKa x) (ecK_sz x) (all_of_one (ecK_one x)) ?_; intro W1 hb1 hr1 hz1; have HBN := Lib.hid ((Hid.out hbel).trans (hb1.mono (Hid.out hbel).size)); have c0 : W1.cell? ⟨wr.heap.size, 0, none⟩ = some (.string x.k) := cell_of_row _ _ 0 _ _ _ hr1; clear hr1 hz1 hb1 hbel HRG)
          | (go_at_call 31; refine (textSizeG _ _).mono ?_; rintro e w' ⟨rfl, hw'⟩; subst hw'))
        clear e1 e2 e3
        exact ⟨⟨i + 1, _, HI1.out, by go_num, rfl, HS.out, HBN.out⟩, by simp [intOf] <;> omega⟩
      · have HE := Lib.hid (show a = Z by have h := Hid.out hsum; rw [List.take_of_length_le (by rw [← HK.out]; omega), HZ.out] at h; exact h)
        go_wp2
        go_ret
        exact ⟨by rw [HE.out]; rfl, Hid.out hbel⟩
  have q2 : ((kd : Int) == 2) = false := by rw [beq_eq_false_iff_ne]; omega
  by_cases h3 : kd = 3
  · have q3 : ((kd : Int) == 3) = true := by rw [h3]; rfl
    obtain ⟨Z, hZ⟩ : ∃ Z, ((szN ⟨kd, I, K, V⟩ : Nat) : Int) = Z := ⟨_, rfl⟩
    have HZ := Lib.hid (show ((2 + (V.map szV).sum : Nat) : Int) = Z by rw [← hZ]; unfold szN; rw [if_neg h1, if_neg h2, if_pos h3])
    rw [hZ]
    clear hZ h1 h2 h3 HLI HLK HI HK
    go_enter Tryz.func14, Tryz.ntmps14
    go_wp2_with fail
    generalize w.alloc _ = w0 at *
    go_loopw [3, 53] (fun av v wr => ∃ (i : Nat) (a : Int), i ≤ nV ∧ v = .int .i64 i ∧ av = .int .i64 (w6 a) ∧ Hid (a = ((2 + ((V.take i).map szV).sum : Nat) : Int)) ∧ Hid (Below w.heap.size w wr)) (fun _ v _ => nV - (intOf v).toNat)
    case atStart => exact ⟨0, 2, Nat.zero_le _, by go_num, by rw [w6_in (by omega)], rfl, HB0.out⟩
    case round =>
      obtain ⟨i, a, hi, rfl, rfl, hsum, hbel⟩ := hrel
      by_cases hlt : i < nV
      · obtain ⟨x, hx⟩ : ∃ x, V[i]? = some x := ⟨_, List.getElem?_eq_getElem (by rw [← HV.out]; exact hlt)⟩
        obtain ⟨b, o, hAe, hb, hr⟩ := (HLV.out.below (Hid.out hbel)) i x hx
        have hbs : b < wr.heap.size := Nat.lt_of_lt_of_le hb (Hid.out hbel).size
        have HS := Lib.hid (show a + (47 + (x.nm.size : Int) + (x.fr.size : Int)) = ((2 + ((V.take (i + 1)).map szV).sum : Nat) : Int) by rw [sum_snoc szV hx, Hid.out hsum]; unfold szV; omega)
        have HI1 := Lib.hid (show i + 1 ≤ nV by omega)
        have HRG := Lib.hid hr
        clear hr hx hsum
        subst hAe
        go_wp2_with (first
          | (refine wpList_load_at rfl 59 (.tmp 55) rfl b (o + i * 37) rfl (ecV x) _ HRG.out Tryz.underlying59 rfl (infoVs x) ?_)
          | (refine wpList_fresh rfl 59 (.tmp 9) (.tmp 56) rfl (ecV x).toArray _ _ rfl rfl (infoVa x) (ecV_sz x) (all_of_one (ecV_one x)) ?_; intro W1 hb1 hr1 hz1; have HBN := Lib.hid ((Hid.out hbel).trans (hb1.mono (Hid.out hbel).size)); have c0 : W1.cell? ⟨wr.heap.size, 0, none⟩ = some (.string x.nm) := cell_of_row _ _ 0 _ _ _ hr1; have c2 : W1.cell? ⟨wr.heap.size, 2, none⟩ = some (.string x.fr) := cell_of_row _ _ 2 _ _ _ hr1; clear hr1 hz1 hb1 hbel HRG))
        have e1 : IntKind.i64.wrap (w6 (1 + (x.nm.size : Int)) + w6 (1 + (x.fr.size : Int))) = w6 (2 + (x.nm.size : Int) + (x.fr.size : Int)) := by rw [w6_two]; congr 1; omega
        have e2 : IntKind.i64.wrap (w6 (2 + (x.nm.size : Int) + (x.fr.size : Int)) + 1) = w6 (3 + (x.nm.size : Int) + (x.fr.size : Int)) := by rw [w6_left]; congr 1; omega
        have e3 : IntKind.i64.wrap (w6 (3 + (x.nm.size : Int) + (x.fr.size : Int)) + 8) = w6 (11 + (x.nm.size : Int) + (x.fr.size : Int)) := by rw [w6_left]; congr 1; omega
        have e4 : IntKind.i64.wrap (w6 (11 + (x.nm.size : Int) + (x.fr.size : Int)) + 4) = w6 (15 + (x.nm.size : Int) + (x.fr.size : Int)) := by rw [w6_left]; congr 1; omega
        have e5 : IntKind.i64.wrap (w6 (15 + (x.nm.size : Int) + (x.fr.size : Int)) + 32) = w6 (47 + (x.nm.size : Int) + (x.fr.size : Int)) := by rw [w6_left]; congr 1; omega
        have e6 : IntKind.i64.wrap (w6 a + w6 (47 + (x.nm.size : Int) + (x.fr.size : Int))) = w6 (a + (47 + (x.nm.size : Int) + (x.fr.size : Int))) := w6_two _ _
        go_quiet ((go_at_call 31; exact Calls.quiet_of_same (textSizeG _ _)))
        have HB2 := Lib.hid (below_drewN HBN.out nq)
        clear e1 e2 e3 e4 e5 e6
        generalize World.drewN _ _ = W2 at *
        go_wp2
        exact ⟨⟨i + 1, _, HI1.out, by go_num, rfl, HS.out, HB2.out⟩, by simp [intOf] <;> omega⟩
      · have HE := Lib.hid (show a = Z by have h := Hid.out hsum; rw [List.take_of_length_le (by rw [← HV.out]; omega), HZ.out] at h; exact h)
        go_wp2
        go_ret
        exact ⟨by rw [HE.out]; rfl, Hid.out hbel⟩
  · have q3 : ((kd : Int) == 3) = false := by rw [beq_eq_false_iff_ne]; omega
    have HZ := Lib.hid (show w6 ((szN ⟨kd, I, K, V⟩ : Nat) : Int) = 2 by unfold szN; rw [if_neg h1, if_neg h2, if_neg h3]; exact w6_in (by decide))
    rw [HZ.out]
    clear h1 h2 h3
    go_enter Tryz.func14, Tryz.ntmps14
    go_wp2_with fail
    go_ret
    exact ⟨rfl, HB0.out⟩
end Go.Proofs.YtnfcgifkghegjaaGreatDoor.Nd
/- Contract of the document's Size of any node. -/
namespace Go.Proofs.YtnfcgifkghegjaaGreatDoor.Nd
set_option linter.unusedVariables false
set_option linter.unusedSimpArgs false
open Go.ChangeShapes Go.WideShapes Go.ChangeAt Go.RowKit
open Ar Rg
open BigFrame
open Pk (u8s u8s_length)
open It (str_le below_drewN)
set_option maxRecDepth 100000 in
set_option maxHeartbeats 4000000 in
theorem sizeR_any (n : Nd) (cs : Array Value) (w : World) (hn : NdAt w cs n) :
    Calls Tryz.prog 15 #[.agg cs] w fun e w' => e = .returned (.int .i64 (w6 ((szN n : Nat) : Int))) ∧ Below w.heap.size w w' := by
  obtain ⟨AI, nI, cI, AK, nK, cK, AV, nV, cV, rfl, hI, hK, hV, bI, bK, bV, lI, lK, lV⟩ := hn
  obtain ⟨kd, I, K, V⟩ := n
  dsimp only at hI hK hV lI lK lV ⊢
  have HB0 := Lib.hid (show Below w.heap.size w (w.alloc (.cells #[.int .u8 (kd : Int), .slice AI nI cI, .slice AK nK cK, .slice AV nV cV] 27)) from (Below.refl _ _).alloc (Nat.le_refl _) _)
  have HI := Lib.hid hI
  have HK := Lib.hid hK
  have HV := Lib.hid hV
  have HLI := Lib.hid lI
  have HLK := Lib.hid lK
  have HLV := Lib.hid lV
  clear hI hK hV lI lK lV
  by_cases h1 : kd = 1
  · have q1 : ((kd : Int) == 1) = true := by rw [h1]; rfl
    obtain ⟨Z, hZ⟩ : ∃ Z, ((szN ⟨kd, I, K, V⟩ : Nat) : Int) = Z := ⟨_, rfl⟩
    have HZ := Lib.hid (show ((2 + (I.map szI).sum : Nat) : Int) = Z by rw [← hZ]; unfold szN; rw [if_pos h1])
    rw [hZ]
    clear hZ h1 HLK HLV HK HV
    go_enter Tryz.func15, Tryz.ntmps15
    go_wp2_with fail
    generalize w.alloc _ = w0 at *
    go_loopw [3, 17] (fun av v wr => ∃ (i : Nat) (a : Int), i ≤ nI ∧ v = .int .i64 i ∧ av = .int .i64 (w6 a) ∧ Hid (a = ((2 + ((I.take i).map szI).sum : Nat) : Int)) ∧ Hid (Below w.heap.size w wr)) (fun _ v _ => nI - (intOf v).toNat)
    case atStart => exact ⟨0, 2, Nat.zero_le _, by go_num, by rw [w6_in (by omega)], rfl, HB0.out⟩
    case round =>
      obtain ⟨i, a, hi, rfl, rfl, hsum, hbel⟩ := hrel
      by_cases hlt : i < nI
      · obtain ⟨x, hx⟩ : ∃ x, I[i]? = some x := ⟨_, List.getElem?_eq_getElem (by rw [← HI.out]; exact hlt)⟩
        obtain ⟨b, o, hAe, hb, hr⟩ := (HLI.out.below (Hid.out hbel)) i x hx
        have hbs : b < wr.heap.size := Nat.lt_of_lt_of_le hb (Hid.out hbel).size
        have HS := Lib.hid (show a + (2 + (x.k.size : Int) + (x.v.size : Int)) = ((2 + ((I.take (i + 1)).map szI).sum : Nat) : Int) by rw [sum_snoc szI hx, Hid.out hsum]; unfold szI; omega)
        have HI1 := Lib.hid (show i + 1 ≤ nI by omega)
        have hc0 : wr.cell? ⟨b, o + i * 2, none⟩ = some (.string x.k) := hr 0 _ rfl
        have hc1 : wr.cell? ⟨b, o + i * 2 + 1, none⟩ = some (.string x.v) := hr 1 _ rfl
        have HBN := Lib.hid (show Below w.heap.size w (wr.alloc (.cells #[.string x.k, .string x.v] 61)) from (Hid.out hbel).alloc (Hid.out hbel).size _)
        have hal0 : (wr.alloc (.cells #[.string x.k, .string x.v] 61)).cell? ⟨wr.heap.size, 0, none⟩ = some (.string x.k) := by simp
        have hal1 : (wr.alloc (.cells #[.string x.k, .string x.v] 61)).cell? ⟨wr.heap.size, 1, none⟩ = some (.string x.v) := by simp
        clear hr hx hsum hbel
        subst hAe
        have e1 : IntKind.i64.wrap (2 + (x.k.size : Int)) = w6 (2 + (x.k.size : Int)) := rfl
        have e2 : IntKind.i64.wrap (w6 (2 + (x.k.size : Int)) + (x.v.size : Int)) = w6 (2 + (x.k.size : Int) + (x.v.size : Int)) := w6_left _ _
        have e3 : IntKind.i64.wrap (w6 a + w6 (2 + (x.k.size : Int) + (x.v.size : Int))) = w6 (a + (2 + (x.k.size : Int) + (x.v.size : Int))) := w6_two _ _
        go_wp2_with fail
        clear e1 e2 e3
        exact ⟨⟨i + 1, _, HI1.out, by go_num, rfl, HS.out, HBN.out⟩, by simp [intOf] <;> omega⟩
      · have HE := Lib.hid (show a = Z by have h := Hid.out hsum; rw [List.take_of_length_le (by rw [← HI.out]; omega), HZ.out] at h; exact h)
        go_wp2
        go_ret
        exact ⟨by rw [HE.out]; rfl, Hid.out hbel⟩
  have q1 : ((kd : Int) == 1) = false := by rw [beq_eq_false_iff_ne]; omega
  by_cases h2 : kd = 2
  · have q2 : ((kd : Int) == 2) = true := by rw [h2]; rfl
    obtain ⟨Z, hZ⟩ : ∃ Z, ((szN ⟨kd, I, K, V⟩ : Nat) : Int) = Z := ⟨_, rfl⟩
    have HZ := Lib.hid (show ((2 + (K.map szK).sum : Nat) : Int) = Z by rw [← hZ]; unfold szN; rw [if_neg h1, if_pos h2])
    rw [hZ]
    clear hZ h1 h2 HLI HLV HI HV
    go_enter Tryz.func15, Tryz.ntmps15
    go_wp2_with fail
    generalize w.alloc _ = w0 at *
    go_loopw [3, 37] (fun av v wr => ∃ (i : Nat) (a : Int), i ≤ nK ∧ v = .int .i64 i ∧ av = .int .i64 (w6 a) ∧ Hid (a = ((2 + ((K.take i).map szK).sum : Nat) : Int)) ∧ Hid (Below w.heap.size w wr)) (fun _ v _ => nK - (intOf v).toNat)
    case atStart => exact ⟨0, 2, Nat.zero_le _, by go_num, by rw [w6_in (by omega)], rfl, HB0.out⟩
    case round =>
      obtain ⟨i, a, hi, rfl, rfl, hsum, hbel⟩ := hrel
      by_cases hlt : i < nK
      · obtain ⟨x, hx⟩ : ∃ x, K[i]? = some x := ⟨_, List.getElem?_eq_getElem (by rw [← HK.out]; exact hlt)⟩
        obtain ⟨b, o, hAe, hb, hr⟩ := (HLK.out.below (Hid.out hbel)) i x hx
        have hbs : b < wr.heap.size := Nat.lt_of_lt_of_le hb (Hid.out hbel).size
        have HS := Lib.hid (show a + (37 + (x.k.size : Int)) = ((2 + ((K.take (i + 1)).map szK).sum : Nat) : Int) by rw [sum_snoc szK hx, Hid.out hsum]; unfold szK; omega)
        have HI1 := Lib.hid (show i + 1 ≤ nK by omega)
        have HRG := Lib.hid hr
        clear hr hx hsum
        subst hAe
        have e1 : IntKind.i64.wrap (37 + (x.k.size : Int)) = w6 (37 + (x.k.size : Int)) := rfl
        have e2 : IntKind.i64.wrap (w6 a + w6 (37 + (x.k.size : Int))) = w6 (a + (37 + (x.k.size : Int))) := w6_two _ _
        go_wp2_with (first
          | (refine wpList_load_at rfl 55 (.tmp 39) rfl b (o + i * 34) rfl (ecK x) _ HRG.out Tryz.underlying55 rfl (infoKs x) ?_)
          | (refine wpList_fresh rfl 55 (.tmp 7) (.tmp 40) rfl (ecK x).toArray _ _ rfl rfl (infoKa x) (ecK_sz x) (all_of_one (ecK_one x)) ?_; intro W1 hb1 hr1 hz1; have HBN := Lib.hid ((Hid.out hbel).trans (hb1.mono (Hid.out hbel).size)); have c0 : W1.cell? ⟨wr.heap.size, 0, none⟩ = some (.string x.k) := cell_of_row _ _ 0 _ _ _ hr1; clear hr1 hz1 hb1 hbel HRG))
        clear e1 e2
        exact ⟨⟨i + 1, _, HI1.out, by go_num, rfl, HS.out, HBN.out⟩, by simp [intOf] <;> omega⟩
      · have HE := Lib.hid (show a = Z by have h := Hid.out hsum; rw [List.take_of_length_le (by rw [← HK.out]; omega), HZ.out] at h; exact h)
        go_wp2
        go_ret
        exact ⟨by rw [HE.out]; rfl, Hid.out hbel⟩
  have q2 : ((kd : Int) == 2) = false := by rw [beq_eq_false_iff_ne]; omega
  by_cases h3 : kd = 3
  · have q3 : ((kd : Int) == 3) = true := by rw [h3]; rfl
    obtain ⟨Z, hZ⟩ : ∃ Z, ((szN ⟨kd, I, K, V⟩ : Nat) : Int) = Z := ⟨_, rfl⟩
    have HZ := Lib.hid (show ((2 + (V.map szV).sum : Nat) : Int) = Z by rw [← hZ]; unfold szN; rw [if_neg h1, if_neg h2, if_pos h3])
    rw [hZ]
    clear hZ h1 h2 h3 HLI HLK HI HK
    go_enter Tryz.func15, Tryz.ntmps15
    go_wp2_with fail
    generalize w.alloc _ = w0 at *
    go_loopw [3, 53] (fun av v wr => ∃ (i : Nat) (a : Int), i ≤ nV ∧ v = .int .i64 i ∧ av = .int .i64 (w6 a) ∧ Hid (a = ((2 + ((V.take i).map szV).sum : Nat) : Int)) ∧ Hid (Below w.heap.size w wr)) (fun _ v _ => nV - (intOf v).toNat)
    case atStart => exact ⟨0, 2, Nat.zero_le _, by go_num, by rw [w6_in (by omega)], rfl, HB0.out⟩
    case round =>
      obtain ⟨i, a, hi, rfl, rfl, hsum, hbel⟩ := hrel
      by_cases hlt : i < nV
      · obtain ⟨x, hx⟩ : ∃ x, V[i]? = some x := ⟨_, List.getElem?_eq_getElem (by rw [← HV.out]; exact hlt)⟩
        obtain ⟨b, o, hAe, hb, hr⟩ := (HLV.out.below (Hid.out hbel)) i x hx
        have hbs : b < wr.heap.size := Nat.lt_of_lt_of_le hb (Hid.out hbel).size
        have HS := Lib.hid (show a + (47 + (x.nm.size : Int) + (x.fr.size : Int)) = ((2 + ((V.take (i + 1)).map szV).sum : Nat) : Int) by rw [sum_snoc szV hx, Hid.out hsum]; unfold szV; omega)
        have HI1 := Lib.hid (show i + 1 ≤ nV by omega)
        have HRG := Lib.hid hr
        clear hr hx hsum
        subst hAe
        have e1 : IntKind.i64.wrap (47 + (x.nm.size : Int)) = w6 (47 + (x.nm.size : Int)) := rfl
        have e2 : IntKind.i64.wrap (w6 (47 + (x.nm.size : Int)) + (x.fr.size : Int)) = w6 (47 + (x.nm.size : Int) + (x.fr.size : Int)) := w6_left _ _
        have e3 : IntKind.i64.wrap (w6 a + w6 (47 + (x.nm.size : Int) + (x.fr.size : Int))) = w6 (a + (47 + (x.nm.size : Int) + (x.fr.size : Int))) := w6_two _ _
        go_wp2_with (first
          | (refine wpList_load_at rfl 59 (.tmp 55) rfl b (o + i * 37) rfl (ecV x) _ HRG.out Tryz.underlying59 rfl (infoVs x) ?_)
          | (refine wpList_fresh rfl 59 (.tmp 9) (.tmp 56) rfl (ecV x).toArray _ _ rfl rfl (infoVa x) (ecV_sz x) (all_of_one (ecV_one x)) ?_; intro W1 hb1 hr1 hz1; have HBN := Lib.hid ((Hid.out hbel).trans (hb1.mono (Hid.out hbel).size)); have c0 : W1.cell? ⟨wr.heap.size, 0, none⟩ = some (.string x.nm) := cell_of_row _ _ 0 _ _ _ hr1; have c2 : W1.cell? ⟨wr.heap.size, 2, none⟩ = some (.string x.fr) := cell_of_row _ _ 2 _ _ _ hr1; clear hr1 hz1 hb1 hbel HRG))
        clear e1 e2 e3
        exact ⟨⟨i + 1, _, HI1.out, by go_num, rfl, HS.out, HBN.out⟩, by simp [intOf] <;> omega⟩
      · have HE := Lib.hid (show a = Z by have h := Hid.out hsum; rw [List.take_of_length_le (by rw [← HV.out]; omega), HZ.out] at h; exact h)
        go_wp2
        go_ret
        exact ⟨by rw [HE.out]; rfl, Hid.out hbel⟩
  · have q3 : ((kd : Int) == 3) = false := by rw [beq_eq_false_iff_ne]; omega
    have HZ := Lib.hid (show w6 ((szN ⟨kd, I, K, V⟩ : Nat) : Int) = 2 by unfold szN; rw [if_neg h1, if_neg h2, if_neg h3]; exact w6_in (by decide))
    rw [HZ.out]
    clear h1 h2 h3
    go_enter Tryz.func15, Tryz.ntmps15
    go_wp2_with fail
    go_ret
    exact ⟨rfl, HB0.out⟩
end Go.Proofs.YtnfcgifkghegjaaGreatDoor.Nd
/- Contracts of the document's num and kids. -/
namespace Go.Proofs.YtnfcgifkghegjaaGreatDoor.Nd
set_option linter.unusedVariables false
open Go.ChangeShapes Go.WideShapes Go.ChangeAt Go.RowKit
open Ar Rg
open BigFrame
open Pk (u8s u8s_length)
open It (str_le below_drewN)
theorem put_none (a : Act) (v : Value) : a.put none v = a := rfl
theorem refNum_any (n : Nat) (w : World) : Calls Tryz.prog 56 #[.int .u32 n] w fun e w' => e = .returned (.bool (okNum n)) ∧ w' = w := by
  by_cases h1 : 2 ≤ n
  · have q1 : decide ((2 : Int) ≤ (n : Int)) = true := by rw [decide_eq_true_iff]; omega
    have HF := Lib.hid (show okNum n = decide (n < 65536) by unfold okNum; rw [decide_eq_true h1, Bool.true_and])
    by_cases h2 : n < 65536
    · have q2 : decide ((n : Int) < 65536) = true := by rw [decide_eq_true_iff]; omega
      have HG := Lib.hid (decide_eq_true h2)
      clear h1 h2
      go_enter Tryz.func56, Tryz.ntmps56
      go_wp2
      go_ret
      exact ⟨by rw [HF.out, HG.out]; rfl, rfl⟩
    · have q2 : decide ((n : Int) < 65536) = false := by rw [decide_eq_false_iff_not]; omega
      have HG := Lib.hid (decide_eq_false h2)
      clear h1 h2
      go_enter Tryz.func56, Tryz.ntmps56
      go_wp2
      go_ret
      exact ⟨by rw [HF.out, HG.out]; rfl, rfl⟩
  · have q1 : decide ((2 : Int) ≤ (n : Int)) = false := by rw [decide_eq_false_iff_not]; omega
    have HF := Lib.hid (show okNum n = false by unfold okNum; rw [decide_eq_false h1, Bool.false_and])
    clear h1
    go_enter Tryz.func56, Tryz.ntmps56
    go_wp2
    go_ret
    exact ⟨by rw [HF.out]; rfl, rfl⟩
def okKids (D : List Kd) : Bool := okCount D.length && rtK none D
set_option maxRecDepth 100000 in
set_option maxHeartbeats 4000000 in
theorem refKids_any (D : List Kd) (hwd : ∀ x ∈ D, x.hs.length = 32) (A : Option Addr) (n cap B : Nat) (hn : n = D.length) (hm : n ≤ 281474976710656) (w : World) (hB : B ≤ w.heap.size) (hD : Ls ecK 34 w B A D) :
    Calls Tryz.prog 29 #[.slice A n cap] w fun e w' => e = .returned (.bool (okKids D)) ∧ Below w.heap.size w w' := by
  have HN := Lib.hid hn
  have HD := Lib.hid hD
  have HWD := Lib.hid hwd
  clear hn hD hwd
  go_enter Tryz.func29, Tryz.ntmps29
  go_wp2_with fail
  go_loopw [7] (fun v wr => ∃ i : Nat, i ≤ n ∧ v = .int .i64 i ∧ Hid (RtKAt D i) ∧ Hid (Below w.heap.size w wr)) (fun v _ => n - (intOf v).toNat)
  case atStart => exact ⟨0, Nat.zero_le _, by go_num, RtKAt.zero D, Below.refl _ _⟩
  case round =>
    obtain ⟨i, hi, rfl, hrt, hbel⟩ := hrel
    by_cases hlt : i < n
    · obtain ⟨x, hx⟩ : ∃ x, D[i]? = some x := ⟨_, List.getElem?_eq_getElem (by rw [← HN.out]; exact hlt)⟩
      have hxl := HWD.out x (List.mem_of_getElem? hx)
      have hL := HD.out.below ((Hid.out hbel).mono hB)
      obtain ⟨b, o, hAe, hb, hr⟩ := hL i x hx
      have hbs : b < wr.heap.size := Nat.lt_of_lt_of_le hb (Nat.le_trans hB (Hid.out hbel).size)
      have HRG := Lib.hid hr
      have HL := Lib.hid hL
      clear hL hr
      subst hAe
      have HX := Lib.hid hxl
      clear hxl
      have HQ := Lib.hid (fun w => refNum_any x.n w)
      have hokE : okK x = (decide (x.k.size ≠ 0) && (decide (x.k.size ≤ 48) && okNum x.n)) := rfl
      obtain ⟨q, hq⟩ : ∃ q, q = okNum x.n := ⟨_, rfl⟩
      rw [← hq] at HQ hokE
      clear hq
      by_cases c1 : x.k.size ≠ 0
      · have s1 := str_empty c1
        have s2 := str_nonil c1
        by_cases c2 : x.k.size ≤ 48
        · have s3 : decide ((48 : Int) < (x.k.size : Int)) = false := by rw [decide_eq_false_iff_not]; omega
          cases q
          · have hok : okK x = false := by rw [hokE, Bool.and_false, Bool.and_false]
            have HF := Lib.hid ((Hid.out hrt).bad hx hok)
            clear hrt hx hok hokE c1 c2
            go_wp2_with (first
              | (refine wpList_load_at rfl 55 (.tmp 10) rfl b (o + i * 34) rfl (ecK x) _ HRG.out Tryz.underlying55 rfl (infoKs x) ?_)
              | (refine wpList_fresh rfl 55 (.tmp 4) (.tmp 11) rfl (ecK x).toArray _ _ rfl rfl (infoKa x) (ecK_sz x) (all_of_one (ecK_one x)) ?_; intro w1 hb1 hr1 hz1; have HB1 := Lib.hid ((Hid.out hbel).trans (hb1.mono (Hid.out hbel).size)); have HR1 := Lib.hid hr1; have HL1 := Lib.hid (HL.out.below (hb1.mono (Nat.le_trans hB (Hid.out hbel).size))); have c0 : w1.cell? ⟨wr.heap.size, 0, none⟩ = some (.string x.k) := cell_of_row _ _ 0 _ _ _ hr1; have c1 : w1.cell? ⟨wr.heap.size, 1, none⟩ = some (.int .u32 x.n) := cell_of_row _ _ 1 _ _ _ hr1; clear hr1 hz1 hb1 hbel HL HRG))
            rw [put_none]
            go_big_quiet ((go_at_call 56; exact Calls.quiet_of_same (HQ.out _)))
            have HB2 := Lib.hid (below_drewN HB1.out nq)
            clear HB1 HL1
            generalize World.drewN _ _ = W2 at *
            go_wp2
            go_ret
            exact ⟨by rw [okKids, HF.out, Bool.and_false]; rfl, HB2.out⟩
          · have hok : okK x = true := by rw [hokE, decide_eq_true c1, decide_eq_true c2]; rfl
            clear hokE c1 c2
            go_wp2_with (first
              | (refine wpList_load_at rfl 55 (.tmp 10) rfl b (o + i * 34) rfl (ecK x) _ HRG.out Tryz.underlying55 rfl (infoKs x) ?_)
              | (refine wpList_fresh rfl 55 (.tmp 4) (.tmp 11) rfl (ecK x).toArray _ _ rfl rfl (infoKa x) (ecK_sz x) (all_of_one (ecK_one x)) ?_; intro w1 hb1 hr1 hz1; have HB1 := Lib.hid ((Hid.out hbel).trans (hb1.mono (Hid.out hbel).size)); have HR1 := Lib.hid hr1; have HL1 := Lib.hid (HL.out.below (hb1.mono (Nat.le_trans hB (Hid.out hbel).size))); have c0 : w1.cell? ⟨wr.heap.size, 0, none⟩ = some (.string x.k) := cell_of_row _ _ 0 _ _ _ hr1; have c1 : w1.cell? ⟨wr.heap.size, 1, none⟩ = some (.int .u32 x.n) := cell_of_row _ _ 1 _ _ _ hr1; clear hr1 hz1 hb1 hbel HL HRG))
            by_cases hi0 : i = 0
            · subst hi0
              have HRT := Lib.hid ((Hid.out hrt).first hx hok)
              clear hrt hx hi hok
              rw [put_none]
              go_big_quiet ((go_at_call 56; exact Calls.quiet_of_same (HQ.out _)))
              have HB2 := Lib.hid (below_drewN HB1.out nq)
              clear HB1 HL1
              generalize World.drewN _ _ = W2 at *
              go_wp2
              exact ⟨⟨1, by omega, by go_num, HRT.out, HB2.out⟩, by simp [intOf] <;> omega⟩
            · obtain ⟨k, hk⟩ : ∃ k, i = k + 1 := ⟨i - 1, by omega⟩
              have hk1 : (i : Int) - 1 = (k : Int) := by omega
              have hk2 : decide ((0 : Int) < (i : Int)) = true := by rw [decide_eq_true_iff]; omega
              have hk3 : (k : Int) < (n : Int) := by omega
              obtain ⟨y, hy⟩ : ∃ y, D[k]? = some y := ⟨_, List.getElem?_eq_getElem (by rw [← HN.out]; omega)⟩
              subst hk
              have HY := Lib.hid hy
              by_cases hl : By.bl y.k.data.toList x.k.data.toList = true
              · have hl1 : Op.bytesLess y.k.toList x.k.toList = true := by rw [ByteArray.toList_eq, ByteArray.toList_eq]; exact hl
                have HRT := Lib.hid ((Hid.out hrt).more hy hx hok hl)
                clear hrt hx hl hok hy
                obtain ⟨b2, o2, hAe, hb2, hr2⟩ := HL1.out k y HY.out
                cases hAe
                have hcy := hr2 0 _ rfl
                rw [Nat.add_zero] at hcy
                clear hr2
                rw [put_none]
                go_big_quiet ((go_at_call 56; exact Calls.quiet_of_same (HQ.out _)))
                have HB2 := Lib.hid (below_drewN HB1.out nq)
                clear HB1 HL1
                generalize World.drewN _ _ = W2 at *
                go_wp2
                exact ⟨⟨k + 2, by omega, by go_num, HRT.out, HB2.out⟩, by simp [intOf] <;> omega⟩
              · have hl0 : By.bl y.k.data.toList x.k.data.toList = false := by simpa using hl
                have hl1 : Op.bytesLess y.k.toList x.k.toList = false := by rw [ByteArray.toList_eq, ByteArray.toList_eq]; exact hl0
                have HF := Lib.hid ((Hid.out hrt).down hy hx hl0)
                clear hrt hx hl hl0 hok hy
                obtain ⟨b2, o2, hAe, hb2, hr2⟩ := HL1.out k y HY.out
                cases hAe
                have hcy := hr2 0 _ rfl
                rw [Nat.add_zero] at hcy
                clear hr2
                rw [put_none]
                go_big_quiet ((go_at_call 56; exact Calls.quiet_of_same (HQ.out _)))
                have HB2 := Lib.hid (below_drewN HB1.out nq)
                clear HB1 HL1
                generalize World.drewN _ _ = W2 at *
                go_wp2
                go_ret
                exact ⟨by rw [okKids, HF.out, Bool.and_false]; rfl, HB2.out⟩
        · have s3 : decide ((48 : Int) < (x.k.size : Int)) = true := by rw [decide_eq_true_iff]; omega
          have hok : okK x = false := by rw [hokE, decide_eq_false c2, Bool.false_and, Bool.and_false]
          have HF := Lib.hid ((Hid.out hrt).bad hx hok)
          clear hrt hx hok hokE c1 c2
          go_wp2_with (first
            | (refine wpList_load_at rfl 55 (.tmp 10) rfl b (o + i * 34) rfl (ecK x) _ HRG.out Tryz.underlying55 rfl (infoKs x) ?_)
            | (refine wpList_fresh rfl 55 (.tmp 4) (.tmp 11) rfl (ecK x).toArray _ _ rfl rfl (infoKa x) (ecK_sz x) (all_of_one (ecK_one x)) ?_; intro w1 hb1 hr1 hz1; have HB1 := Lib.hid ((Hid.out hbel).trans (hb1.mono (Hid.out hbel).size)); have HR1 := Lib.hid hr1; have HL1 := Lib.hid (HL.out.below (hb1.mono (Nat.le_trans hB (Hid.out hbel).size))); have c0 : w1.cell? ⟨wr.heap.size, 0, none⟩ = some (.string x.k) := cell_of_row _ _ 0 _ _ _ hr1; have c1 : w1.cell? ⟨wr.heap.size, 1, none⟩ = some (.int .u32 x.n) := cell_of_row _ _ 1 _ _ _ hr1; clear hr1 hz1 hb1 hbel HL HRG))
          rw [put_none]
          go_big_quiet ((go_at_call 56; exact Calls.quiet_of_same (HQ.out _)))
          have HB2 := Lib.hid (below_drewN HB1.out nq)
          clear HB1 HL1
          generalize World.drewN _ _ = W2 at *
          go_wp2
          go_ret
          exact ⟨by rw [okKids, HF.out, Bool.and_false]; rfl, HB2.out⟩
      · have c1' : x.k.size = 0 := Decidable.not_not.1 c1
        have s1 := str_nil c1'
        have hok : okK x = false := by rw [hokE, decide_eq_false c1, Bool.false_and]
        have HF := Lib.hid ((Hid.out hrt).bad hx hok)
        clear hrt hx hok hokE c1 c1'
        go_wp2_with (first
          | (refine wpList_load_at rfl 55 (.tmp 10) rfl b (o + i * 34) rfl (ecK x) _ HRG.out Tryz.underlying55 rfl (infoKs x) ?_)
          | (refine wpList_fresh rfl 55 (.tmp 4) (.tmp 11) rfl (ecK x).toArray _ _ rfl rfl (infoKa x) (ecK_sz x) (all_of_one (ecK_one x)) ?_; intro w1 hb1 hr1 hz1; have HB1 := Lib.hid ((Hid.out hbel).trans (hb1.mono (Hid.out hbel).size)); have HR1 := Lib.hid hr1; have HL1 := Lib.hid (HL.out.below (hb1.mono (Nat.le_trans hB (Hid.out hbel).size))); have c0 : w1.cell? ⟨wr.heap.size, 0, none⟩ = some (.string x.k) := cell_of_row _ _ 0 _ _ _ hr1; have c1 : w1.cell? ⟨wr.heap.size, 1, none⟩ = some (.int .u32 x.n) := cell_of_row _ _ 1 _ _ _ hr1; clear hr1 hz1 hb1 hbel HL HRG))
        rw [put_none]
        go_big_quiet ((go_at_call 56; exact Calls.quiet_of_same (HQ.out _)))
        have HB2 := Lib.hid (below_drewN HB1.out nq)
        clear HB1 HL1
        generalize World.drewN _ _ = W2 at *
        go_wp2
        go_ret
        exact ⟨by rw [okKids, HF.out, Bool.and_false]; rfl, HB2.out⟩
    · have HF := Lib.hid ((Hid.out hrt).last (by rw [← HN.out]; omega))
      have HE : okKids D = okCount n := by rw [okKids, HF.out, Bool.and_true, HN.out]
      have HE := Lib.hid HE
      by_cases d1 : 1 ≤ n
      · have e1 : decide ((1 : Int) ≤ (n : Int)) = true := by rw [decide_eq_true_iff]; omega
        by_cases d2 : n ≤ 255
        · have e2 : decide ((n : Int) ≤ 255) = true := by rw [decide_eq_true_iff]; omega
          have HG := Lib.hid (show okCount n = true by rw [okCount, decide_eq_true d1, decide_eq_true d2]; rfl)
          clear d1 d2
          go_wp2
          go_ret
          exact ⟨by rw [HE.out, HG.out]; rfl, Hid.out hbel⟩
        · have e2 : decide ((n : Int) ≤ 255) = false := by rw [decide_eq_false_iff_not]; omega
          have HG := Lib.hid (show okCount n = false by rw [okCount, decide_eq_true d1, decide_eq_false d2]; rfl)
          clear d1 d2
          go_wp2
          go_ret
          exact ⟨by rw [HE.out, HG.out]; rfl, Hid.out hbel⟩
      · have e1 : decide ((1 : Int) ≤ (n : Int)) = false := by rw [decide_eq_false_iff_not]; omega
        have HG := Lib.hid (show okCount n = false by rw [okCount, decide_eq_false d1]; rfl)
        clear d1
        go_wp2
        go_ret
        exact ⟨by rw [HE.out, HG.out]; rfl, Hid.out hbel⟩
end Go.Proofs.YtnfcgifkghegjaaGreatDoor.Nd
/- Contract of the document's volumes. -/
namespace Go.Proofs.YtnfcgifkghegjaaGreatDoor.Nd
set_option linter.unusedVariables false
open Go.ChangeShapes Go.WideShapes Go.ChangeAt Go.RowKit
open Ar Rg
open BigFrame
open Pk (u8s u8s_length)
open It (str_le below_drewN)
/-- a load of a whole array from the middle of a row, guarded -/
theorem wpList_load_at_g {P : Program} {ops : Array Oper} {rest : List Oper} {o : Oper} {a : Act} {w : World} {Q : Exit → Act → World → Prop} (ty : TypeId) (x : Operand) (ho : o.op = .load ty x) (hw : Region.wanted o (yielded ops a.tmps) = true) (b off : Nat) (hx : a.eval x = .pointer (some ⟨b, off, none⟩)) (cs : List Value) (d : TypeDesc) (hc : w.rangeAt b off cs)
    (hu : P.underlying ty = some d) (hd : d.isRow = true) (hi : (P.info? ty).map (·.size) = some cs.length) (h : wpList P ops Q rest (a.put o.dst (.agg cs.toArray)) w) : wpList P ops Q (o :: rest) a w :=
  wpList_want hw fun K hK => by
    unfold Oper.wp
    rw [load_run ty x ho b off hx cs d hc hu hd hi, Oper.upon_value]
    exact hK _ _ h
theorem wpList_id {P : Program} {ops : Array Oper} {l : List Oper} {a : Act} {w : World} {Q : Exit → Act → World → Prop} (h : wpList P ops Q l a w) : wpList P ops Q l a w := h
def okVols (D : List Vo) : Bool := decide (D.length ≤ 6) && rtV none D
theorem okV_root (x : Vo) (h1 : x.nm.size ≠ 0) (h2 : x.nm.size ≤ 16) (h3 : x.fr.size ≤ 16) (h4 : 1 ≤ x.kd) (h5 : x.kd ≤ 2) : okV x = rtRoot x := by
  rw [okV_eq, decide_eq_true h1, decide_eq_true h2, decide_eq_true h3, decide_eq_true h4, decide_eq_true h5, Bool.true_and, Bool.true_and, Bool.true_and, Bool.true_and, Bool.true_and]
theorem refNum_any2 (n : Nat) (w : World) : Calls Tryz.prog 56 #[.int .u32 n] w fun e w' => e = .returned (.bool (okNum n)) ∧ w = w' := (refNum_any n w).mono fun e w' h => ⟨h.1, h.2.symm⟩
set_option maxRecDepth 100000 in
set_option maxHeartbeats 8000000 in
theorem refVolumes_any (D : List Vo) (hwd : ∀ x ∈ D, x.hs.length = 32) (A : Option Addr) (n cap B : Nat) (hn : n = D.length) (hm : n ≤ 281474976710656) (w : World) (hB : B ≤ w.heap.size) (hD : Ls ecV 37 w B A D) :
    Calls Tryz.prog 30 #[.slice A n cap] w fun e w' => e = .returned (.bool (okVols D)) ∧ Below w.heap.size w w' := by
  have HN := Lib.hid hn
  have HD := Lib.hid hD
  have HWD := Lib.hid hwd
  clear hn hD hwd
  go_enter Tryz.func30, Tryz.ntmps30
  go_wp2_with fail
  go_loopw [7] (fun v wr => ∃ i : Nat, i ≤ n ∧ v = .int .i64 i ∧ Hid (RtVAt D i) ∧ Hid (Below w.heap.size w wr)) (fun v _ => n - (intOf v).toNat)
  case atStart => exact ⟨0, Nat.zero_le _, by go_num, RtVAt.zero D, Below.refl _ _⟩
  case round =>
    obtain ⟨i, hi, rfl, hrt, hbel⟩ := hrel
    by_cases hlt : i < n
    · obtain ⟨x, hx⟩ : ∃ x, D[i]? = some x := ⟨_, List.getElem?_eq_getElem (by rw [← HN.out]; exact hlt)⟩
      have hxl := HWD.out x (List.mem_of_getElem? hx)
      have hL := HD.out.below ((Hid.out hbel).mono hB)
      obtain ⟨b, o, hAe, hb, hr⟩ := hL i x hx
      have hbs : b < wr.heap.size := Nat.lt_of_lt_of_le hb (Nat.le_trans hB (Hid.out hbel).size)
      have HRG := Lib.hid hr
      have HL := Lib.hid hL
      clear hL hr
      subst hAe
      have HX := Lib.hid hxl
      clear hxl
      have HBAD := Lib.hid (fun h : okV x = false => Lib.hid ((Hid.out hrt).bad hx h))
      by_cases c1 : x.nm.size ≠ 0
      · skip
        by_cases c2 : x.nm.size ≤ 16
        · skip
          by_cases c3 : x.fr.size ≤ 16
          · skip
            by_cases c4 : 1 ≤ x.kd
            · skip
              by_cases c5 : x.kd ≤ 2
              · skip
                have t1a := str_empty c1
                have t1b := str_nonil c1
                have t2 : decide ((16 : Int) < (x.nm.size : Int)) = false := by rw [decide_eq_false_iff_not]; omega
                have t3 : decide ((16 : Int) < (x.fr.size : Int)) = false := by rw [decide_eq_false_iff_not]; omega
                have t4 : decide ((x.kd : Int) ≤ 0) = false := by rw [decide_eq_false_iff_not]; omega
                have t4b : decide (x.kd = 0) = false := by rw [decide_eq_false_iff_not]; omega
                have t5 : decide (3 ≤ (x.kd : Int)) = false := by rw [decide_eq_false_iff_not]; omega
                have HV := Lib.hid (okV_root x c1 c2 c3 c4 c5)
                clear c1 c2 c3 c4 c5
                go_wp2_with (first
                  | (refine wpList_load_at rfl 59 (.tmp 10) rfl b (o + i * 37) rfl (ecV x) _ HRG.out Tryz.underlying59 rfl (infoVs x) ?_)
                  | (refine wpList_fresh rfl 59 (.tmp 4) (.tmp 11) rfl (ecV x).toArray _ _ rfl rfl (infoVa x) (ecV_sz x) (all_of_one (ecV_one x)) ?_; intro w1 hb1 hr1 hz1; have HB1 := Lib.hid ((Hid.out hbel).trans (hb1.mono (Hid.out hbel).size)); have HR1 := Lib.hid hr1; have HL1 := Lib.hid (HL.out.below (hb1.mono (Nat.le_trans hB (Hid.out hbel).size))); have c0 : w1.cell? ⟨wr.heap.size, 0, none⟩ = some (.string x.nm) := cell_of_row _ _ 0 _ _ _ hr1; have c1 : w1.cell? ⟨wr.heap.size, 1, none⟩ = some (.int .u8 x.kd) := cell_of_row _ _ 1 _ _ _ hr1; have c2 : w1.cell? ⟨wr.heap.size, 2, none⟩ = some (.string x.fr) := cell_of_row _ _ 2 _ _ _ hr1; clear hr1 hz1 hb1 hbel HL HRG))
                rw [put_none]
                by_cases hi0 : i = 0
                · subst hi0
                  have HGO := Lib.hid (fun h : okV x = true => (Hid.out hrt).first hx h)
                  clear hrt hx hi
                  go_big_quiet (fail)
                  have HB2 := Lib.hid (below_drewN HB1.out nq)
                  have c4 : (w1.drewN nq).cell? ⟨wr.heap.size, 4, none⟩ = some (.int .u32 x.rt) := cell_of_row _ _ 4 _ _ _ HR1.out
                  have HRG := Lib.hid (show (w1.drewN nq).rangeAt wr.heap.size 5 (u8s x.hs) from rangeAt_row HR1.out (fun j v hj => by
                    rw [ecV_of HX.out]
                    show (encV x).toArray[5 + j]? = some v
                    unfold encV
                    rw [List.getElem?_toArray, Nat.add_comm 5 j]
                    exact hj))
                  clear HB1 HL1 HR1 c0 c1 c2
                  try clear hcy
                  generalize World.drewN _ _ = W2 at *
                  by_cases h0 : x.rt = 0
                  · have HE := Lib.hid (show okV x = decide (x.hs = List.replicate 32 0) by rw [HV.out]; unfold rtRoot zero32; rw [if_pos h0])
                    have c4b : W2.cell? ⟨wr.heap.size, 4, none⟩ = some (.int .u32 0) := by rw [c4, h0]; rfl
                    clear c4
                    have HEQ := Lib.hid (show ∀ w, (Op.equalIn 10000 53 (.agg (u8s x.hs).toArray) (.agg zH)).run Tryz.prog w = .ok (decide (x.hs = List.replicate 32 0)) w from fun w => by rw [zH_u8s]; exact eq_arr (m := List.replicate 32 0) HX.out (by rw [List.length_replicate]) w)
                    have HI := Lib.hid (show (Tryz.prog.info? 53).map (·.size) = some (u8s x.hs).length by rw [u8s_length, HX.out]; kernel_rfl)
                    generalize decide (x.hs = List.replicate 32 0) = q at *
                    clear h0
                    have heq := HEQ.out
                    have hgd := guard32
                    cases q
                    · have hok := HE.out
                      have HF := Lib.hid (HBAD.out hok)
                      clear hok
                      go_wp2_with (with_reducible refine wpList_id ?_; refine wpList_load_at_g 53 (.tmp 56) rfl (by kernel_rfl) wr.heap.size 5 rfl (u8s x.hs) _ HRG.out Tryz.underlying53 rfl HI.out ?_)
                      go_ret
                      exact ⟨by rw [okVols, HF.out, Bool.and_false]; rfl, HB2.out⟩
                    · have hok := HE.out
                      have HRT := Lib.hid (HGO.out hok)
                      clear hok
                      go_wp2_with (with_reducible refine wpList_id ?_; refine wpList_load_at_g 53 (.tmp 56) rfl (by kernel_rfl) wr.heap.size 5 rfl (u8s x.hs) _ HRG.out Tryz.underlying53 rfl HI.out ?_)
                      exact ⟨⟨1, by omega, by go_num, HRT.out, HB2.out⟩, by simp [intOf] <;> omega⟩
                  · have HE := Lib.hid (show okV x = okNum x.rt by rw [HV.out]; unfold rtRoot; rw [if_neg h0])
                    have q0 : ((x.rt : Int) == 0) = false := by rw [beq_eq_false_iff_ne]; omega
                    have q1 : ((x.rt : Int) != 0) = true := by rw [bne_iff_ne]; omega
                    have q2 : ¬ x.rt = 0 := h0
                    have HN2 := Lib.hid (fun w => refNum_any2 x.rt w)
                    generalize okNum x.rt = q at *
                    clear h0 HRG
                    cases q
                    · have hok := HE.out
                      have HF := Lib.hid (HBAD.out hok)
                      clear hok
                      go_wp2_with (go_at_call 56; refine (HN2.out _).mono ?_; rintro e w' ⟨rfl, rfl⟩)
                      go_ret
                      exact ⟨by rw [okVols, HF.out, Bool.and_false]; rfl, HB2.out⟩
                    · have hok := HE.out
                      have HRT := Lib.hid (HGO.out hok)
                      clear hok
                      go_wp2_with (go_at_call 56; refine (HN2.out _).mono ?_; rintro e w' ⟨rfl, rfl⟩)
                      exact ⟨⟨1, by omega, by go_num, HRT.out, HB2.out⟩, by simp [intOf] <;> omega⟩
                · obtain ⟨k, hk⟩ : ∃ k, i = k + 1 := ⟨i - 1, by omega⟩
                  have hk1 : (i : Int) - 1 = (k : Int) := by omega
                  have hk2 : decide ((0 : Int) < (i : Int)) = true := by rw [decide_eq_true_iff]; omega
                  have hk3 : (k : Int) < (n : Int) := by omega
                  obtain ⟨y, hy⟩ : ∃ y, D[k]? = some y := ⟨_, List.getElem?_eq_getElem (by rw [← HN.out]; omega)⟩
                  subst hk
                  have HY := Lib.hid hy
                  by_cases hl : By.bl y.nm.data.toList x.nm.data.toList = true
                  · have hl1 : Op.bytesLess y.nm.toList x.nm.toList = true := by rw [ByteArray.toList_eq, ByteArray.toList_eq]; exact hl
                    have HGO := Lib.hid (fun h : okV x = true => (Hid.out hrt).more hy hx h hl)
                    clear hrt hx hl hy
                    obtain ⟨b2, o2, hAe, hb2, hr2⟩ := HL1.out k y HY.out
                    cases hAe
                    have hcy := hr2 0 _ rfl
                    rw [Nat.add_zero] at hcy
                    clear hr2
                    go_big_quiet (fail)
                    have HB2 := Lib.hid (below_drewN HB1.out nq)
                    have c4 : (w1.drewN nq).cell? ⟨wr.heap.size, 4, none⟩ = some (.int .u32 x.rt) := cell_of_row _ _ 4 _ _ _ HR1.out
                    have HRG := Lib.hid (show (w1.drewN nq).rangeAt wr.heap.size 5 (u8s x.hs) from rangeAt_row HR1.out (fun j v hj => by
                      rw [ecV_of HX.out]
                      show (encV x).toArray[5 + j]? = some v
                      unfold encV
                      rw [List.getElem?_toArray, Nat.add_comm 5 j]
                      exact hj))
                    clear HB1 HL1 HR1 c0 c1 c2
                    try clear hcy
                    generalize World.drewN _ _ = W2 at *
                    by_cases h0 : x.rt = 0
                    · have HE := Lib.hid (show okV x = decide (x.hs = List.replicate 32 0) by rw [HV.out]; unfold rtRoot zero32; rw [if_pos h0])
                      have c4b : W2.cell? ⟨wr.heap.size, 4, none⟩ = some (.int .u32 0) := by rw [c4, h0]; rfl
                      clear c4
                      have HEQ := Lib.hid (show ∀ w, (Op.equalIn 10000 53 (.agg (u8s x.hs).toArray) (.agg zH)).run Tryz.prog w = .ok (decide (x.hs = List.replicate 32 0)) w from fun w => by rw [zH_u8s]; exact eq_arr (m := List.replicate 32 0) HX.out (by rw [List.length_replicate]) w)
                      have HI := Lib.hid (show (Tryz.prog.info? 53).map (·.size) = some (u8s x.hs).length by rw [u8s_length, HX.out]; kernel_rfl)
                      generalize decide (x.hs = List.replicate 32 0) = q at *
                      clear h0
                      have heq := HEQ.out
                      have hgd := guard32
                      cases q
                      · have hok := HE.out
                        have HF := Lib.hid (HBAD.out hok)
                        clear hok
                        go_wp2_with (with_reducible refine wpList_id ?_; refine wpList_load_at_g 53 (.tmp 56) rfl (by kernel_rfl) wr.heap.size 5 rfl (u8s x.hs) _ HRG.out Tryz.underlying53 rfl HI.out ?_)
                        go_ret
                        exact ⟨by rw [okVols, HF.out, Bool.and_false]; rfl, HB2.out⟩
                      · have hok := HE.out
                        have HRT := Lib.hid (HGO.out hok)
                        clear hok
                        go_wp2_with (with_reducible refine wpList_id ?_; refine wpList_load_at_g 53 (.tmp 56) rfl (by kernel_rfl) wr.heap.size 5 rfl (u8s x.hs) _ HRG.out Tryz.underlying53 rfl HI.out ?_)
                        exact ⟨⟨k + 2, by omega, by go_num, HRT.out, HB2.out⟩, by simp [intOf] <;> omega⟩
                    · have HE := Lib.hid (show okV x = okNum x.rt by rw [HV.out]; unfold rtRoot; rw [if_neg h0])
                      have q0 : ((x.rt : Int) == 0) = false := by rw [beq_eq_false_iff_ne]; omega
                      have q1 : ((x.rt : Int) != 0) = true := by rw [bne_iff_ne]; omega
                      have q2 : ¬ x.rt = 0 := h0
                      have HN2 := Lib.hid (fun w => refNum_any2 x.rt w)
                      generalize okNum x.rt = q at *
                      clear h0 HRG
                      cases q
                      · have hok := HE.out
                        have HF := Lib.hid (HBAD.out hok)
                        clear hok
                        go_wp2_with (go_at_call 56; refine (HN2.out _).mono ?_; rintro e w' ⟨rfl, rfl⟩)
                        go_ret
                        exact ⟨by rw [okVols, HF.out, Bool.and_false]; rfl, HB2.out⟩
                      · have hok := HE.out
                        have HRT := Lib.hid (HGO.out hok)
                        clear hok
                        go_wp2_with (go_at_call 56; refine (HN2.out _).mono ?_; rintro e w' ⟨rfl, rfl⟩)
                        exact ⟨⟨k + 2, by omega, by go_num, HRT.out, HB2.out⟩, by simp [intOf] <;> omega⟩
                  · have hl0 : By.bl y.nm.data.toList x.nm.data.toList = false := by simpa using hl
                    have hl1 : Op.bytesLess y.nm.toList x.nm.toList = false := by rw [ByteArray.toList_eq, ByteArray.toList_eq]; exact hl0
                    have HF := Lib.hid ((Hid.out hrt).down hy hx hl0)
                    clear hrt hx hl hl0 hy
                    obtain ⟨b2, o2, hAe, hb2, hr2⟩ := HL1.out k y HY.out
                    cases hAe
                    have hcy := hr2 0 _ rfl
                    rw [Nat.add_zero] at hcy
                    clear hr2
                    go_big_quiet (fail)
                    have HB2 := Lib.hid (below_drewN HB1.out nq)
                    clear HB1 HL1 HR1
                    generalize World.drewN _ _ = W2 at *
                    go_wp2
                    go_ret
                    exact ⟨by rw [okVols, HF.out, Bool.and_false]; rfl, HB2.out⟩
              · skip
                have HF := HBAD.out (show okV x = false by rw [okV_eq, decide_eq_true c1, Bool.true_and, decide_eq_true c2, Bool.true_and, decide_eq_true c3, Bool.true_and, decide_eq_true c4, Bool.true_and, decide_eq_false c5, Bool.false_and])
                have t1a := str_empty c1
                have t1b := str_nonil c1
                have t2 : decide ((16 : Int) < (x.nm.size : Int)) = false := by rw [decide_eq_false_iff_not]; omega
                have t3 : decide ((16 : Int) < (x.fr.size : Int)) = false := by rw [decide_eq_false_iff_not]; omega
                have t4 : decide ((x.kd : Int) ≤ 0) = false := by rw [decide_eq_false_iff_not]; omega
                have t4b : decide (x.kd = 0) = false := by rw [decide_eq_false_iff_not]; omega
                have t5 : decide (3 ≤ (x.kd : Int)) = true := by rw [decide_eq_true_iff]; omega
                clear hrt hx HBAD c1 c2 c3 c4 c5
                go_wp2_with (first
                  | (refine wpList_load_at rfl 59 (.tmp 10) rfl b (o + i * 37) rfl (ecV x) _ HRG.out Tryz.underlying59 rfl (infoVs x) ?_)
                  | (refine wpList_fresh rfl 59 (.tmp 4) (.tmp 11) rfl (ecV x).toArray _ _ rfl rfl (infoVa x) (ecV_sz x) (all_of_one (ecV_one x)) ?_; intro w1 hb1 hr1 hz1; have HB1 := Lib.hid ((Hid.out hbel).trans (hb1.mono (Hid.out hbel).size)); have HR1 := Lib.hid hr1; have HL1 := Lib.hid (HL.out.below (hb1.mono (Nat.le_trans hB (Hid.out hbel).size))); have c0 : w1.cell? ⟨wr.heap.size, 0, none⟩ = some (.string x.nm) := cell_of_row _ _ 0 _ _ _ hr1; have c1 : w1.cell? ⟨wr.heap.size, 1, none⟩ = some (.int .u8 x.kd) := cell_of_row _ _ 1 _ _ _ hr1; have c2 : w1.cell? ⟨wr.heap.size, 2, none⟩ = some (.string x.fr) := cell_of_row _ _ 2 _ _ _ hr1; clear hr1 hz1 hb1 hbel HL HRG))
                rw [put_none]
                go_big_quiet (fail)
                have HB2 := Lib.hid (below_drewN HB1.out nq)
                clear HB1 HL1 HR1
                generalize World.drewN _ _ = W2 at *
                go_wp2
                go_ret
                exact ⟨by rw [okVols, HF.out, Bool.and_false]; rfl, HB2.out⟩
            · skip
              have HF := HBAD.out (show okV x = false by rw [okV_eq, decide_eq_true c1, Bool.true_and, decide_eq_true c2, Bool.true_and, decide_eq_true c3, Bool.true_and, decide_eq_false c4, Bool.false_and])
              have t1a := str_empty c1
              have t1b := str_nonil c1
              have t2 : decide ((16 : Int) < (x.nm.size : Int)) = false := by rw [decide_eq_false_iff_not]; omega
              have t3 : decide ((16 : Int) < (x.fr.size : Int)) = false := by rw [decide_eq_false_iff_not]; omega
              have t4 : decide ((x.kd : Int) ≤ 0) = true := by rw [decide_eq_true_iff]; omega
              have t4b : decide (x.kd = 0) = true := by rw [decide_eq_true_iff]; omega
              clear hrt hx HBAD c1 c2 c3 c4
              go_wp2_with (first
                | (refine wpList_load_at rfl 59 (.tmp 10) rfl b (o + i * 37) rfl (ecV x) _ HRG.out Tryz.underlying59 rfl (infoVs x) ?_)
                | (refine wpList_fresh rfl 59 (.tmp 4) (.tmp 11) rfl (ecV x).toArray _ _ rfl rfl (infoVa x) (ecV_sz x) (all_of_one (ecV_one x)) ?_; intro w1 hb1 hr1 hz1; have HB1 := Lib.hid ((Hid.out hbel).trans (hb1.mono (Hid.out hbel).size)); have HR1 := Lib.hid hr1; have HL1 := Lib.hid (HL.out.below (hb1.mono (Nat.le_trans hB (Hid.out hbel).size))); have c0 : w1.cell? ⟨wr.heap.size, 0, none⟩ = some (.string x.nm) := cell_of_row _ _ 0 _ _ _ hr1; have c1 : w1.cell? ⟨wr.heap.size, 1, none⟩ = some (.int .u8 x.kd) := cell_of_row _ _ 1 _ _ _ hr1; have c2 : w1.cell? ⟨wr.heap.size, 2, none⟩ = some (.string x.fr) := cell_of_row _ _ 2 _ _ _ hr1; clear hr1 hz1 hb1 hbel HL HRG))
              rw [put_none]
              go_big_quiet (fail)
              have HB2 := Lib.hid (below_drewN HB1.out nq)
              clear HB1 HL1 HR1
              generalize World.drewN _ _ = W2 at *
              go_wp2
              go_ret
              exact ⟨by rw [okVols, HF.out, Bool.and_false]; rfl, HB2.out⟩
          · skip
            have HF := HBAD.out (show okV x = false by rw [okV_eq, decide_eq_true c1, Bool.true_and, decide_eq_true c2, Bool.true_and, decide_eq_false c3, Bool.false_and])
            have t1a := str_empty c1
            have t1b := str_nonil c1
            have t2 : decide ((16 : Int) < (x.nm.size : Int)) = false := by rw [decide_eq_false_iff_not]; omega
            have t3 : decide ((16 : Int) < (x.fr.size : Int)) = true := by rw [decide_eq_true_iff]; omega
            clear hrt hx HBAD c1 c2 c3
            go_wp2_with (first
              | (refine wpList_load_at rfl 59 (.tmp 10) rfl b (o + i * 37) rfl (ecV x) _ HRG.out Tryz.underlying59 rfl (infoVs x) ?_)
              | (refine wpList_fresh rfl 59 (.tmp 4) (.tmp 11) rfl (ecV x).toArray _ _ rfl rfl (infoVa x) (ecV_sz x) (all_of_one (ecV_one x)) ?_; intro w1 hb1 hr1 hz1; have HB1 := Lib.hid ((Hid.out hbel).trans (hb1.mono (Hid.out hbel).size)); have HR1 := Lib.hid hr1; have HL1 := Lib.hid (HL.out.below (hb1.mono (Nat.le_trans hB (Hid.out hbel).size))); have c0 : w1.cell? ⟨wr.heap.size, 0, none⟩ = some (.string x.nm) := cell_of_row _ _ 0 _ _ _ hr1; have c1 : w1.cell? ⟨wr.heap.size, 1, none⟩ = some (.int .u8 x.kd) := cell_of_row _ _ 1 _ _ _ hr1; have c2 : w1.cell? ⟨wr.heap.size, 2, none⟩ = some (.string x.fr) := cell_of_row _ _ 2 _ _ _ hr1; clear hr1 hz1 hb1 hbel HL HRG))
            rw [put_none]
            go_big_quiet (fail)
            have HB2 := Lib.hid (below_drewN HB1.out nq)
            clear HB1 HL1 HR1
            generalize World.drewN _ _ = W2 at *
            go_wp2
            go_ret
            exact ⟨by rw [okVols, HF.out, Bool.and_false]; rfl, HB2.out⟩
        · skip
          have HF := HBAD.out (show okV x = false by rw [okV_eq, decide_eq_true c1, Bool.true_and, decide_eq_false c2, Bool.false_and])
          have t1a := str_empty c1
          have t1b := str_nonil c1
          have t2 : decide ((16 : Int) < (x.nm.size : Int)) = true := by rw [decide_eq_true_iff]; omega
          clear hrt hx HBAD c1 c2
          go_wp2_with (first
            | (refine wpList_load_at rfl 59 (.tmp 10) rfl b (o + i * 37) rfl (ecV x) _ HRG.out Tryz.underlying59 rfl (infoVs x) ?_)
            | (refine wpList_fresh rfl 59 (.tmp 4) (.tmp 11) rfl (ecV x).toArray _ _ rfl rfl (infoVa x) (ecV_sz x) (all_of_one (ecV_one x)) ?_; intro w1 hb1 hr1 hz1; have HB1 := Lib.hid ((Hid.out hbel).trans (hb1.mono (Hid.out hbel).size)); have HR1 := Lib.hid hr1; have HL1 := Lib.hid (HL.out.below (hb1.mono (Nat.le_trans hB (Hid.out hbel).size))); have c0 : w1.cell? ⟨wr.heap.size, 0, none⟩ = some (.string x.nm) := cell_of_row _ _ 0 _ _ _ hr1; have c1 : w1.cell? ⟨wr.heap.size, 1, none⟩ = some (.int .u8 x.kd) := cell_of_row _ _ 1 _ _ _ hr1; have c2 : w1.cell? ⟨wr.heap.size, 2, none⟩ = some (.string x.fr) := cell_of_row _ _ 2 _ _ _ hr1; clear hr1 hz1 hb1 hbel HL HRG))
          rw [put_none]
          go_big_quiet (fail)
          have HB2 := Lib.hid (below_drewN HB1.out nq)
          clear HB1 HL1 HR1
          generalize World.drewN _ _ = W2 at *
          go_wp2
          go_ret
          exact ⟨by rw [okVols, HF.out, Bool.and_false]; rfl, HB2.out⟩
      · skip
        have HF := HBAD.out (show okV x = false by rw [okV_eq, decide_eq_false c1, Bool.false_and])
        have t1a := str_nil (Decidable.not_not.1 c1)
        clear hrt hx HBAD c1
        go_wp2_with (first
          | (refine wpList_load_at rfl 59 (.tmp 10) rfl b (o + i * 37) rfl (ecV x) _ HRG.out Tryz.underlying59 rfl (infoVs x) ?_)
          | (refine wpList_fresh rfl 59 (.tmp 4) (.tmp 11) rfl (ecV x).toArray _ _ rfl rfl (infoVa x) (ecV_sz x) (all_of_one (ecV_one x)) ?_; intro w1 hb1 hr1 hz1; have HB1 := Lib.hid ((Hid.out hbel).trans (hb1.mono (Hid.out hbel).size)); have HR1 := Lib.hid hr1; have HL1 := Lib.hid (HL.out.below (hb1.mono (Nat.le_trans hB (Hid.out hbel).size))); have c0 : w1.cell? ⟨wr.heap.size, 0, none⟩ = some (.string x.nm) := cell_of_row _ _ 0 _ _ _ hr1; have c1 : w1.cell? ⟨wr.heap.size, 1, none⟩ = some (.int .u8 x.kd) := cell_of_row _ _ 1 _ _ _ hr1; have c2 : w1.cell? ⟨wr.heap.size, 2, none⟩ = some (.string x.fr) := cell_of_row _ _ 2 _ _ _ hr1; clear hr1 hz1 hb1 hbel HL HRG))
        rw [put_none]
        go_big_quiet (fail)
        have HB2 := Lib.hid (below_drewN HB1.out nq)
        clear HB1 HL1 HR1
        generalize World.drewN _ _ = W2 at *
        go_wp2
        go_ret
        exact ⟨by rw [okVols, HF.out, Bool.and_false]; rfl, HB2.out⟩
    · have HF := Lib.hid ((Hid.out hrt).last (by rw [← HN.out]; omega))
      have HE := Lib.hid (show okVols D = decide (n ≤ 6) by rw [okVols, HF.out, Bool.and_true, HN.out])
      by_cases d2 : n ≤ 6
      · have e2 : decide ((n : Int) ≤ 6) = true := by rw [decide_eq_true_iff]; omega
        have HG := Lib.hid (decide_eq_true d2)
        clear d2
        go_wp2
        go_ret
        exact ⟨by rw [HE.out, HG.out]; rfl, Hid.out hbel⟩
      · have e2 : decide ((n : Int) ≤ 6) = false := by rw [decide_eq_false_iff_not]; omega
        have HG := Lib.hid (decide_eq_false d2)
        clear d2
        go_wp2
        go_ret
        exact ⟨by rw [HE.out, HG.out]; rfl, Hid.out hbel⟩
end Go.Proofs.YtnfcgifkghegjaaGreatDoor.Nd
