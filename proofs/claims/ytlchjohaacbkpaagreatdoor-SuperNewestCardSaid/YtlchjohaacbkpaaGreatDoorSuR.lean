/- The walk of the law SuperNewest. -/
import Derived.Test.YtlchjohaacbkpaaGreatDoorSuP
namespace Go.Proofs.YtlchjohaacbkpaaGreatDoor.Sa
set_option linter.unusedVariables false
set_option linter.unusedSimpArgs false
open Go.ChangeShapes Go.WideShapes Go.ChangeAt Go.RowKit
open Sp Nd Rg Ar
open BigFrame
open Pk (be num be_length u8s u8s_length)
set_option maxRecDepth 100000 in
set_option maxHeartbeats 8000000 in
theorem superNewest_walk (w : World) (a b : ByteArray) (za : a.size ≤ 140737488351232) (zb : b.size ≤ 140737488351232) :
    Calls Tryz.prog 7 #[.string a, .string b] w fun e w' => e = .returned (.bool true) ∧ Below w.heap.size w w' := by
  have HL := Lib.hid (fun w => lives_su w)
  have HO := Lib.hid (fun w => order_su a b za zb w)
  have HOA := Lib.hid (fun w => order_su a ⟨#[]⟩ za (by decide) w)
  have HOB := Lib.hid (fun w => order_su ⟨#[]⟩ b (by decide) zb w)
  rw [show ordS a ⟨#[]⟩ = inS a 0 from ordS_left a] at HOA
  rw [show ordS ⟨#[]⟩ b = inS b 1 from ordS_right b] at HOB
  obtain ⟨w1, w2, w3, w4⟩ := ordS_what a b
  have HAT := Lib.hid w1
  have HSUM0 := Lib.hid w2
  have HLE := Lib.hid w3
  have HTWO := Lib.hid w4
  clear w1 w2 w3 w4 za zb
  obtain ⟨L, hL⟩ : ∃ L, ordS a b = L := ⟨_, rfl⟩
  rw [hL] at HO HAT HSUM0 HLE HTWO
  clear hL
  go_enter Tryz.func7, Tryz.ntmps7
  go_wp2_with fail
  refine (HL.out _).mono ?_
  rintro e wa ⟨rfl, hba⟩
  have HBA := Lib.hid hba
  clear hba HL
  go_wp2_with fail
  refine (HO.out _).mono ?_
  rintro e wb ⟨v, rfl, _, hsa, hb⟩
  obtain ⟨A, n, c, hv, hn, hLs⟩ : ∃ A n c, v = .slice A n c ∧ n = L.length ∧ Ls Ss.enc 35 wb wb.heap.size A L := by
    obtain ⟨A, n, c, h1, h2, h3, h4⟩ := hsa
    exact ⟨A, n, c, h1, h2, h4⟩
  subst hv
  have HSA := Lib.hid hsa
  have HB := Lib.hid (HBA.out.trans (hb.mono HBA.out.size))
  have HN := Lib.hid hn
  have HN3 := Lib.hid (show n ≤ 2 by rw [hn]; exact HLE.out)
  have HSUM := Lib.hid (show n = (inS a 0).length + (inS b 1).length by rw [hn]; exact HSUM0.out)
  clear hsa hb HBA HSUM0 HLE HO
  by_cases h2 : n = 2
  · obtain ⟨x, y, hxy⟩ : ∃ x y, L = [x, y] := by
      rw [h2] at hn
      match L, hn with
      | [x, y], _ => exact ⟨x, y, rfl⟩
    have hg := HTWO.out x y hxy
    obtain ⟨g, o, hA, _, r0⟩ := hLs 0 x (by rw [hxy]; rfl)
    obtain ⟨g1, o1, hA1, _, r1⟩ := hLs 1 y (by rw [hxy]; rfl)
    subst hA
    cases hA1
    have d0 : wb.cell? ⟨g, o + 1, none⟩ = some (.int .u64 x.G) := by
      have := r0 1 (.int .u64 x.G) rfl
      simpa using this
    have d1 : wb.cell? ⟨g, o + 35 + 1, none⟩ = some (.int .u64 y.G) := by
      have := r1 1 (.int .u64 y.G) rfl
      simpa using this
    have t1 : decide ((x.G : Int) < (y.G : Int)) = false := by simp; omega
    have t1n : decide (x.G < y.G) = false := by simp; omega
    have t0 : ((n : Int) == 2) = true := by rw [beq_iff_eq]; omega
    have t2 : decide ((2 : Int) < (n : Int)) = false := by simp; omega
    have q1 : (0 : Int) < (n : Int) := by omega
    have q2 : (1 : Int) < (n : Int) := by omega
    clear hxy hg r0 r1 hn hLs HTWO h2
    go_wp2_with fail
    go_big_quiet (fail)
    have HLQ := Lib.hid (show SAt (wb.drewN nq) (.slice (some ⟨g, o, none⟩) n c) L from HSA.out.below (It.below_drewN (Below.refl _ _) nq))
    have HBQ := Lib.hid (It.below_drewN HB.out nq)
    clear d0 d1 HSA HB
    generalize World.drewN _ _ = wq at *
    clear t0 t1 t1n t2 q1 q2
    obtain ⟨A, hA⟩ : ∃ A : Option Addr, some (⟨g, o, none⟩ : Addr) = A := ⟨_, rfl⟩
    rw [hA] at HLQ ⊢
    clear hA
    go_wp2_with fail
    go_loopw [38] (fun u wr => ∃ i : Nat, i ≤ n ∧ u = .int .i64 i ∧ Hid (SAt wr (.slice A n c) L) ∧ Hid (Below w.heap.size w wr)) (fun u _ => n - (intOf u).toNat)
    case atStart => exact ⟨0, Nat.zero_le _, by go_num, HLQ.out, HBQ.out⟩
    case round =>
      clear HLQ HBQ
      obtain ⟨i, hi, rfl, hsa, hbel⟩ := hrel
      by_cases hlt : i < n
      · have hn3 : n ≤ 2 := HN3.out
        obtain ⟨x, hx⟩ : ∃ x, L[i]? = some x := ⟨_, List.getElem?_eq_getElem (by rw [← HN.out]; exact hlt)⟩
        obtain ⟨hxl, hxo, hsl⟩ := HAT.out x (List.mem_of_getElem? hx)
        have HEN := Lib.hid (fun w => encode_su x hxl w)
        rw [(chS_yes hxo).1] at HEN
        have HSL := Lib.hid (fun w => slot_any x w)
        have hv : vS x = .agg (Ss.enc x).toArray := by unfold vS; rw [Ss.enc_of hxl.2.2.2]
        rw [hv] at HEN HSL
        have HCI := Lib.hid (infoSe x)
        have HCL := Lib.hid (show (Tryz.prog.info? 44).map (·.size) = some (Ss.enc x).length by rw [Ss.enc_len]; exact infoS35)
        have HCZ := Lib.hid (encS_sz x)
        have HCO := Lib.hid (all_oneCell_toArray (Ss.enc_one x))
        have hAe : ∃ g o, A = some ⟨g, o, none⟩ ∧ wr.rangeAt g (o + i * 35) (Ss.enc x) := by
          obtain ⟨A', n', c', e1, e2, e3, hL⟩ := Hid.out hsa
          cases e1
          obtain ⟨g, o, hA, hlt, hr⟩ := hL i x hx
          exact ⟨g, o, hA, hr⟩
        obtain ⟨g, o, rfl, hr⟩ := hAe
        have HRG := Lib.hid hr
        clear hr hxl hxo hv hx
        rcases hsl with hsl | hsl
        · skip
          obtain ⟨s1, s2⟩ := hsl
          rw [s1] at HSL
          rw [s2] at HEN
          have e0 : (a.toList != a.toList) = false := by simp
          clear s1 s2
          go_wp2_with (first
            | (refine wpList_load_at rfl 44 (.tmp 40) rfl g (o + i * 35) rfl (Ss.enc x) _ HRG.out Tryz.underlying44 rfl HCL.out ?_)
            | (refine wpList_fresh rfl 44 (.tmp 7) (.tmp 41) rfl (Ss.enc x).toArray zS 44 rfl rfl HCI.out HCZ.out HCO.out ?_; intro w1 hb1 hr1 hz1; have HB1 := Lib.hid ((Hid.out hbel).trans (hb1.mono (Hid.out hbel).size)); have HR1 := Lib.hid hr1; have HL1 := Lib.hid ((Hid.out hsa).below hb1); clear hb1 hr1 hz1)
            | (refine wpList_load_row rfl 44 (.tmp 7) rfl wr.heap.size rfl 44 (Ss.enc x).toArray (0, 0) _ HR1.out Tryz.underlying44 rfl HCI.out ?_))
          refine (HEN.out _).mono ?_
          rintro e w2 ⟨rfl, hb⟩
          have HB2 := Lib.hid (HB1.out.trans (hb.mono HB1.out.size))
          have HR2 := Lib.hid ((hb.block _ (row_lt HR1.out)).trans HR1.out)
          have HL2 := Lib.hid (HL1.out.below hb)
          clear hb HB1 HR1 HL1 HEN hbel hsa
          go_wp2_with (refine wpList_load_row_g 44 (.tmp 7) rfl (by rfl) wr.heap.size rfl 44 (Ss.enc x).toArray (0, 0) _ HR2.out Tryz.underlying44 rfl HCI.out ?_)
          refine (HSL.out _).mono ?_
          rintro e w3 ⟨rfl, hb⟩
          have HB3 := Lib.hid (HB2.out.trans (hb.mono HB2.out.size))
          have HR3 := Lib.hid ((hb.block _ (row_lt HR2.out)).trans HR2.out)
          have HL3 := Lib.hid (HL2.out.below hb)
          clear hb HB2 HR2 HL2
          go_wp2_with (refine wpList_load_row_g 44 (.tmp 7) rfl (by rfl) wr.heap.size rfl 44 (Ss.enc x).toArray (0, 0) _ HR3.out Tryz.underlying44 rfl HCI.out ?_)
          refine (HSL.out _).mono ?_
          rintro e w4 ⟨rfl, hb⟩
          have HB4 := Lib.hid (HB3.out.trans (hb.mono HB3.out.size))
          have HL4 := Lib.hid (HL3.out.below hb)
          clear hb HB3 HR3 HL3 HSL
          go_wp2
          exact ⟨⟨i + 1, by omega, by go_num, HL4.out, HB4.out⟩, by simp [intOf] <;> omega⟩
        · skip
          obtain ⟨s1, s2⟩ := hsl
          rw [s1] at HSL
          rw [s2] at HEN
          have e0 : (b.toList != b.toList) = false := by simp
          clear s1 s2
          go_wp2_with (first
            | (refine wpList_load_at rfl 44 (.tmp 40) rfl g (o + i * 35) rfl (Ss.enc x) _ HRG.out Tryz.underlying44 rfl HCL.out ?_)
            | (refine wpList_fresh rfl 44 (.tmp 7) (.tmp 41) rfl (Ss.enc x).toArray zS 44 rfl rfl HCI.out HCZ.out HCO.out ?_; intro w1 hb1 hr1 hz1; have HB1 := Lib.hid ((Hid.out hbel).trans (hb1.mono (Hid.out hbel).size)); have HR1 := Lib.hid hr1; have HL1 := Lib.hid ((Hid.out hsa).below hb1); clear hb1 hr1 hz1)
            | (refine wpList_load_row rfl 44 (.tmp 7) rfl wr.heap.size rfl 44 (Ss.enc x).toArray (0, 0) _ HR1.out Tryz.underlying44 rfl HCI.out ?_))
          refine (HEN.out _).mono ?_
          rintro e w2 ⟨rfl, hb⟩
          have HB2 := Lib.hid (HB1.out.trans (hb.mono HB1.out.size))
          have HR2 := Lib.hid ((hb.block _ (row_lt HR1.out)).trans HR1.out)
          have HL2 := Lib.hid (HL1.out.below hb)
          clear hb HB1 HR1 HL1 HEN hbel hsa
          go_wp2_with (refine wpList_load_row_g 44 (.tmp 7) rfl (by rfl) wr.heap.size rfl 44 (Ss.enc x).toArray (0, 0) _ HR2.out Tryz.underlying44 rfl HCI.out ?_)
          refine (HSL.out _).mono ?_
          rintro e w3 ⟨rfl, hb⟩
          have HB3 := Lib.hid (HB2.out.trans (hb.mono HB2.out.size))
          have HR3 := Lib.hid ((hb.block _ (row_lt HR2.out)).trans HR2.out)
          have HL3 := Lib.hid (HL2.out.below hb)
          clear hb HB2 HR2 HL2
          go_wp2_with (refine wpList_load_row_g 44 (.tmp 7) rfl (by rfl) wr.heap.size rfl 44 (Ss.enc x).toArray (0, 0) _ HR3.out Tryz.underlying44 rfl HCI.out ?_)
          refine (HSL.out _).mono ?_
          rintro e w4 ⟨rfl, hb⟩
          have HB4 := Lib.hid (HB3.out.trans (hb.mono HB3.out.size))
          have HL4 := Lib.hid (HL3.out.below hb)
          clear hb HB3 HR3 HL3 HSL
          go_wp2
          exact ⟨⟨i + 1, by omega, by go_num, HL4.out, HB4.out⟩, by simp [intOf] <;> omega⟩
      · have hin : i = n := by omega
        subst hin
        clear hlt hi
        go_wp2_with fail
        refine (HOA.out _).mono ?_
        rintro e w2 ⟨v2, rfl, _, ⟨A2, n2, c2, rfl, hn2, _, _⟩, hb⟩
        have HB2 := Lib.hid ((Hid.out hbel).trans (hb.mono (Hid.out hbel).size))
        have HN2 := Lib.hid hn2
        clear hb hbel hsa hn2
        go_wp2_with fail
        refine (HOB.out _).mono ?_
        rintro e w3 ⟨v3, rfl, _, ⟨A3, n3, c3, rfl, hn3, _, _⟩, hb⟩
        have HB3 := Lib.hid (HB2.out.trans (hb.mono HB2.out.size))
        have hsum : i = n2 + n3 := by rw [HSUM.out, HN2.out, hn3]
        have HS3 := Lib.hid hsum
        have b1 : n2 ≤ 2 := by have := HN3.out; omega
        have b2 : n3 ≤ 2 := by have := HN3.out; omega
        have he : (((i : Nat) : Int) == (n2 : Int) + (n3 : Int)) = true := by rw [beq_iff_eq]; omega
        have hw : IntKind.i64.wrap ((n2 : Int) + (n3 : Int)) = (n2 : Int) + (n3 : Int) := IntWalk.i64_in _ ⟨by omega, by omega⟩
        clear hb HB2 HN2 hn3 hsum
        go_wp2
        go_ret
        exact ⟨rfl, HB3.out⟩
  · have t1 : ((n : Int) == 2) = false := by rw [beq_eq_false_iff_ne]; omega
    have t2 : decide ((2 : Int) < (n : Int)) = false := by simp; have := HN3.out; omega
    clear hn hLs HTWO h2
    go_wp2_with fail
    go_big_quiet (fail)
    have HLQ := Lib.hid (show SAt (wb.drewN nq) (.slice A n c) L from HSA.out.below (It.below_drewN (Below.refl _ _) nq))
    have HBQ := Lib.hid (It.below_drewN HB.out nq)
    clear HSA HB
    generalize World.drewN _ _ = wq at *
    clear t1 t2
    go_wp2_with fail
    go_loopw [38] (fun u wr => ∃ i : Nat, i ≤ n ∧ u = .int .i64 i ∧ Hid (SAt wr (.slice A n c) L) ∧ Hid (Below w.heap.size w wr)) (fun u _ => n - (intOf u).toNat)
    case atStart => exact ⟨0, Nat.zero_le _, by go_num, HLQ.out, HBQ.out⟩
    case round =>
      clear HLQ HBQ
      obtain ⟨i, hi, rfl, hsa, hbel⟩ := hrel
      by_cases hlt : i < n
      · have hn3 : n ≤ 2 := HN3.out
        obtain ⟨x, hx⟩ : ∃ x, L[i]? = some x := ⟨_, List.getElem?_eq_getElem (by rw [← HN.out]; exact hlt)⟩
        obtain ⟨hxl, hxo, hsl⟩ := HAT.out x (List.mem_of_getElem? hx)
        have HEN := Lib.hid (fun w => encode_su x hxl w)
        rw [(chS_yes hxo).1] at HEN
        have HSL := Lib.hid (fun w => slot_any x w)
        have hv : vS x = .agg (Ss.enc x).toArray := by unfold vS; rw [Ss.enc_of hxl.2.2.2]
        rw [hv] at HEN HSL
        have HCI := Lib.hid (infoSe x)
        have HCL := Lib.hid (show (Tryz.prog.info? 44).map (·.size) = some (Ss.enc x).length by rw [Ss.enc_len]; exact infoS35)
        have HCZ := Lib.hid (encS_sz x)
        have HCO := Lib.hid (all_oneCell_toArray (Ss.enc_one x))
        have hAe : ∃ g o, A = some ⟨g, o, none⟩ ∧ wr.rangeAt g (o + i * 35) (Ss.enc x) := by
          obtain ⟨A', n', c', e1, e2, e3, hL⟩ := Hid.out hsa
          cases e1
          obtain ⟨g, o, hA, hlt, hr⟩ := hL i x hx
          exact ⟨g, o, hA, hr⟩
        obtain ⟨g, o, rfl, hr⟩ := hAe
        have HRG := Lib.hid hr
        clear hr hxl hxo hv hx
        rcases hsl with hsl | hsl
        · skip
          obtain ⟨s1, s2⟩ := hsl
          rw [s1] at HSL
          rw [s2] at HEN
          have e0 : (a.toList != a.toList) = false := by simp
          clear s1 s2
          go_wp2_with (first
            | (refine wpList_load_at rfl 44 (.tmp 40) rfl g (o + i * 35) rfl (Ss.enc x) _ HRG.out Tryz.underlying44 rfl HCL.out ?_)
            | (refine wpList_fresh rfl 44 (.tmp 7) (.tmp 41) rfl (Ss.enc x).toArray zS 44 rfl rfl HCI.out HCZ.out HCO.out ?_; intro w1 hb1 hr1 hz1; have HB1 := Lib.hid ((Hid.out hbel).trans (hb1.mono (Hid.out hbel).size)); have HR1 := Lib.hid hr1; have HL1 := Lib.hid ((Hid.out hsa).below hb1); clear hb1 hr1 hz1)
            | (refine wpList_load_row rfl 44 (.tmp 7) rfl wr.heap.size rfl 44 (Ss.enc x).toArray (0, 0) _ HR1.out Tryz.underlying44 rfl HCI.out ?_))
          refine (HEN.out _).mono ?_
          rintro e w2 ⟨rfl, hb⟩
          have HB2 := Lib.hid (HB1.out.trans (hb.mono HB1.out.size))
          have HR2 := Lib.hid ((hb.block _ (row_lt HR1.out)).trans HR1.out)
          have HL2 := Lib.hid (HL1.out.below hb)
          clear hb HB1 HR1 HL1 HEN hbel hsa
          go_wp2_with (refine wpList_load_row_g 44 (.tmp 7) rfl (by rfl) wr.heap.size rfl 44 (Ss.enc x).toArray (0, 0) _ HR2.out Tryz.underlying44 rfl HCI.out ?_)
          refine (HSL.out _).mono ?_
          rintro e w3 ⟨rfl, hb⟩
          have HB3 := Lib.hid (HB2.out.trans (hb.mono HB2.out.size))
          have HR3 := Lib.hid ((hb.block _ (row_lt HR2.out)).trans HR2.out)
          have HL3 := Lib.hid (HL2.out.below hb)
          clear hb HB2 HR2 HL2
          go_wp2_with (refine wpList_load_row_g 44 (.tmp 7) rfl (by rfl) wr.heap.size rfl 44 (Ss.enc x).toArray (0, 0) _ HR3.out Tryz.underlying44 rfl HCI.out ?_)
          refine (HSL.out _).mono ?_
          rintro e w4 ⟨rfl, hb⟩
          have HB4 := Lib.hid (HB3.out.trans (hb.mono HB3.out.size))
          have HL4 := Lib.hid (HL3.out.below hb)
          clear hb HB3 HR3 HL3 HSL
          go_wp2
          exact ⟨⟨i + 1, by omega, by go_num, HL4.out, HB4.out⟩, by simp [intOf] <;> omega⟩
        · skip
          obtain ⟨s1, s2⟩ := hsl
          rw [s1] at HSL
          rw [s2] at HEN
          have e0 : (b.toList != b.toList) = false := by simp
          clear s1 s2
          go_wp2_with (first
            | (refine wpList_load_at rfl 44 (.tmp 40) rfl g (o + i * 35) rfl (Ss.enc x) _ HRG.out Tryz.underlying44 rfl HCL.out ?_)
            | (refine wpList_fresh rfl 44 (.tmp 7) (.tmp 41) rfl (Ss.enc x).toArray zS 44 rfl rfl HCI.out HCZ.out HCO.out ?_; intro w1 hb1 hr1 hz1; have HB1 := Lib.hid ((Hid.out hbel).trans (hb1.mono (Hid.out hbel).size)); have HR1 := Lib.hid hr1; have HL1 := Lib.hid ((Hid.out hsa).below hb1); clear hb1 hr1 hz1)
            | (refine wpList_load_row rfl 44 (.tmp 7) rfl wr.heap.size rfl 44 (Ss.enc x).toArray (0, 0) _ HR1.out Tryz.underlying44 rfl HCI.out ?_))
          refine (HEN.out _).mono ?_
          rintro e w2 ⟨rfl, hb⟩
          have HB2 := Lib.hid (HB1.out.trans (hb.mono HB1.out.size))
          have HR2 := Lib.hid ((hb.block _ (row_lt HR1.out)).trans HR1.out)
          have HL2 := Lib.hid (HL1.out.below hb)
          clear hb HB1 HR1 HL1 HEN hbel hsa
          go_wp2_with (refine wpList_load_row_g 44 (.tmp 7) rfl (by rfl) wr.heap.size rfl 44 (Ss.enc x).toArray (0, 0) _ HR2.out Tryz.underlying44 rfl HCI.out ?_)
          refine (HSL.out _).mono ?_
          rintro e w3 ⟨rfl, hb⟩
          have HB3 := Lib.hid (HB2.out.trans (hb.mono HB2.out.size))
          have HR3 := Lib.hid ((hb.block _ (row_lt HR2.out)).trans HR2.out)
          have HL3 := Lib.hid (HL2.out.below hb)
          clear hb HB2 HR2 HL2
          go_wp2_with (refine wpList_load_row_g 44 (.tmp 7) rfl (by rfl) wr.heap.size rfl 44 (Ss.enc x).toArray (0, 0) _ HR3.out Tryz.underlying44 rfl HCI.out ?_)
          refine (HSL.out _).mono ?_
          rintro e w4 ⟨rfl, hb⟩
          have HB4 := Lib.hid (HB3.out.trans (hb.mono HB3.out.size))
          have HL4 := Lib.hid (HL3.out.below hb)
          clear hb HB3 HR3 HL3 HSL
          go_wp2
          exact ⟨⟨i + 1, by omega, by go_num, HL4.out, HB4.out⟩, by simp [intOf] <;> omega⟩
      · have hin : i = n := by omega
        subst hin
        clear hlt hi
        go_wp2_with fail
        refine (HOA.out _).mono ?_
        rintro e w2 ⟨v2, rfl, _, ⟨A2, n2, c2, rfl, hn2, _, _⟩, hb⟩
        have HB2 := Lib.hid ((Hid.out hbel).trans (hb.mono (Hid.out hbel).size))
        have HN2 := Lib.hid hn2
        clear hb hbel hsa hn2
        go_wp2_with fail
        refine (HOB.out _).mono ?_
        rintro e w3 ⟨v3, rfl, _, ⟨A3, n3, c3, rfl, hn3, _, _⟩, hb⟩
        have HB3 := Lib.hid (HB2.out.trans (hb.mono HB2.out.size))
        have hsum : i = n2 + n3 := by rw [HSUM.out, HN2.out, hn3]
        have HS3 := Lib.hid hsum
        have b1 : n2 ≤ 2 := by have := HN3.out; omega
        have b2 : n3 ≤ 2 := by have := HN3.out; omega
        have he : (((i : Nat) : Int) == (n2 : Int) + (n3 : Int)) = true := by rw [beq_iff_eq]; omega
        have hw : IntKind.i64.wrap ((n2 : Int) + (n3 : Int)) = (n2 : Int) + (n3 : Int) := IntWalk.i64_in _ ⟨by omega, by omega⟩
        clear hb HB2 HN2 hn3 hsum
        go_wp2
        go_ret
        exact ⟨rfl, HB3.out⟩
end Go.Proofs.YtlchjohaacbkpaaGreatDoor.Sa
