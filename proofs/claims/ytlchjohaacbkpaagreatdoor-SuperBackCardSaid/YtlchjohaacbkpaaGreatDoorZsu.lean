/- What both halves of the walk of SuperBack name. -/
import Derived.Test.YtlchjohaacbkpaaGreatDoorSuP
import Derived.Test.YtlchjohaacbkpaaGreatDoorSuF
import Derived.Test.YtlchjohaacbkpaaGreatDoorSuS
namespace Go.Proofs.YtlchjohaacbkpaaGreatDoor.Sa
set_option linter.unusedVariables false
set_option linter.unusedSimpArgs false
open Go.ChangeShapes Go.WideShapes Go.ChangeAt Go.RowKit
open Sp Sb2 Nd Rg Ar
open BigFrame
open Pk (be num be_length u8s u8s_length)
theorem one4 {w : World} {cs : Array Value} {n : Nd} (h : NdAt w cs n) : cs.all (·.oneCell') = true := by
  obtain ⟨AI, nI, cI, AK, nK, cK, AV, nV, cV, rfl, _⟩ := h; exact four_cells _ _ _ _ rfl rfl rfl rfl
end Go.Proofs.YtlchjohaacbkpaaGreatDoor.Sa
/- The walk of the law SuperBack. -/
namespace Go.Proofs.YtlchjohaacbkpaaGreatDoor.Sa
set_option linter.unusedVariables false
set_option linter.unusedSimpArgs false
open Go.ChangeShapes Go.WideShapes Go.ChangeAt Go.RowKit
open Sp Sb2 Nd Rg Ar
open BigFrame
open Pk (be num be_length u8s u8s_length)
set_option maxRecDepth 100000 in
set_option maxHeartbeats 8000000 in
theorem superBack_no (w : World) (p : Su) (hl : p.lim) (d : ByteArray) (hd : d.size ≤ 140737488351232) (a b : Int) (hb8 : 0 ≤ b ∧ b ≤ 255) (ha : -9223372036854775808 ≤ a ∧ a ≤ 9223372036854775807) (hq0 : okS p = false) :
    Calls Tryz.prog 6 #[vS p, .string d, .int .i64 a, .int .u8 b] w fun e w' => e = .returned (.bool true) ∧ Below w.heap.size w w' := by
  have HL := Lib.hid (fun w => lives_su w)
  have HE := Lib.hid (fun w => encode_su p hl w)
  have hvp : vS p = .agg (Ss.enc p).toArray := by unfold vS; rw [Ss.enc_of hl.2.2.2]
  have EQ := Lib.hid (fun w => eq_super p p hl.2.2.2 hl.2.2.2 w)
  rw [(eqS_iff p p).2 rfl] at EQ
  have HPI := Lib.hid (infoSe p)
  have HPZ := Lib.hid (encS_sz p)
  have HPO := Lib.hid (all_oneCell_toArray (Ss.enc_one p))
  have HKN := Lib.hid (fun h : okS p = false => chS_no h)
  have HKY := Lib.hid (fun h : okS p = true => (chS_yes h).1)
  have HDE := Lib.hid (fun (h : okS p = true) (w : World) => (by have := decode_su (enS p) (by have := seal_le hl h; omega) w; rw [(de_en hl h).1, (de_en hl h).2, hvp] at this; exact this : Calls Tryz.prog 28 #[.string (enS p)] w fun e w' => e = .returned (.tuple #[.agg (Ss.enc p).toArray, .int .i64 0]) ∧ Below w.heap.size w w'))
  rw [hvp] at HE EQ ⊢
  clear hvp hl
  obtain ⟨q, hq⟩ : ∃ q, okS p = q := ⟨_, rfl⟩
  rw [hq] at HKN HKY HDE hq0
  obtain ⟨x, hx⟩ : ∃ q, chS p = q := ⟨_, rfl⟩
  obtain ⟨s, hs⟩ : ∃ q, enS p = q := ⟨_, rfl⟩
  obtain ⟨C, hC⟩ : ∃ q, (Ss.enc p).toArray = q := ⟨_, rfl⟩
  rw [hx, hs, hC] at HE
  rw [hC] at EQ HPI HPZ HPO ⊢
  rw [hs, hC] at HDE
  rw [hx, hs] at HKN
  rw [hx] at HKY
  clear hq hx hs hC
  have R0 := Lib.hid (heap_alloc_new w (.cells C 44))
  have B0 := Lib.hid ((Below.refl w.heap.size w).alloc (Nat.le_refl _) (.cells C 44))
  go_enter Tryz.func6, Tryz.ntmps6
  go_wp2_with fail
  generalize w.alloc _ = W at *
  refine (HL.out _).mono ?_
  rintro e w1 ⟨rfl, hb⟩
  have R1 := Lib.hid ((hb.block _ (row_lt R0.out)).trans R0.out)
  have B1 := Lib.hid (B0.out.trans (hb.mono B0.out.size))
  clear hb R0 B0 HL
  go_wp2_with (refine wpList_load_row rfl 44 (.tmp 4) rfl w.heap.size rfl 44 C (0, 0) _ R1.out Tryz.underlying44 rfl HPI.out ?_)
  refine (HE.out _).mono ?_
  rintro e w2 ⟨rfl, hb⟩
  have R2 := Lib.hid ((hb.block _ (row_lt R1.out)).trans R1.out)
  have B2 := Lib.hid (B1.out.trans (hb.mono B1.out.size))
  clear hb R1 B1 HE
  cases q
  · obtain ⟨f1, f2⟩ := HKN.out rfl
    subst f1 f2
    have HBz := B2
    clear HKN HKY HDE B2 R2
    have HDD := Lib.hid (fun w => decode_su d hd w)
    by_cases his : IsS d
    · obtain ⟨e1, e2⟩ := de_is his
      rw [enc_tk, e1, e2] at HDD
      have HEN := Lib.hid (fun w => encode_su (tkS d) (tkS_lim d) w)
      rw [his.2, (chS_yes his.1).1] at HEN
      have hv := enc_tk d
      rw [e1] at hv
      rw [hv] at HEN
      have HND := Lib.hid (fun w => dec_no d (by omega) (no_node his) w)
      have HIS := Lib.hid his
      have HUI := Lib.hid (infoSe (tkS d))
      have HUZ := Lib.hid (encS_sz (tkS d))
      have HUO := Lib.hid (all_oneCell_toArray (Ss.enc_one (tkS d)))
      clear e1 e2 hv his
      generalize (Ss.enc (tkS d)).toArray = U at *
      try go_wp2_with fail
      refine (HDD.out _).mono ?_
      rintro e w3 ⟨rfl, hb⟩
      have HBa := Lib.hid (HBz.out.trans (hb.mono HBz.out.size))
      clear hb HBz HDD
      go_wp2_with (first
        | (refine wpList_fresh rfl 44 (.tmp 13) (.tmp 47) rfl U zS 44 rfl rfl HUI.out HUZ.out HUO.out ?_; intro w4 hb hr hz; have HBb := Lib.hid (HBa.out.trans (hb.mono HBa.out.size)); have HR4 := Lib.hid hr; clear hb hr hz)
        | (refine wpList_load_row rfl 44 (.tmp 13) rfl w3.heap.size rfl 44 U (0, 0) _ HR4.out Tryz.underlying44 rfl HUI.out ?_))
      refine (HEN.out _).mono ?_
      rintro e w5 ⟨rfl, hb⟩
      have HBc := Lib.hid (HBb.out.trans (hb.mono HBb.out.size))
      clear hb HBa HBb HR4 HEN
      go_wp2_with fail
      refine (HND.out _).mono ?_
      rintro e w5b ⟨cs, rfl, ho, hat⟩
      have HBd := Lib.hid (HBc.out.trans (ho.bel.mono HBc.out.size))
      have HAT := Lib.hid hat
      clear ho hat HBc HND
      have e0 : (d.toList != d.toList) = false := by simp
      by_cases h0 : a < 0
      · clear hb8 ha HIS
        go_wp2_with (refine wpList_fresh rfl 27 (.tmp 17) (.tmp 61) rfl cs _ _ rfl rfl (info4 HAT.out.size) HAT.out.size.symm (one4 HAT.out) ?_; intro w6 hb hr hz; have HB6 := Lib.hid (HBd.out.trans (hb.mono HBd.out.size)); clear hb hr hz HBd)
        go_ret
        exact ⟨rfl, HB6.out⟩
      · by_cases h1 : a < 512
        · obtain ⟨i, rfl⟩ : ∃ d : Nat, a = d := ⟨a.toNat, by omega⟩
          have hi : i < 512 := by omega
          have hl1 := is_len HIS.out
          obtain ⟨k, hk⟩ : ∃ k, k = (b % 8).toNat := ⟨_, rfl⟩
          have hk7 : k ≤ 7 := by omega
          have hF := fillz_len (l := d.data.toList) (m := 512) hl1
          have HT := Lib.hid (turned_su HIS.out i k hi hk7 hF)
          have hsd : d.data.toList.length = d.size := by rw [Array.length_toList]; rfl
          have HCP := Lib.hid (show ((madeCells #[Value.int .u8 0] 512).toList.take 0 ++ Lib.byteCells d.data.toList ++ (madeCells #[Value.int .u8 0] 512).toList.drop (0 + d.size)).toArray = (u8s (fillz d.data.toList 512)).toArray by rw [← hsd]; exact cells_made _ hl1)
          have hS : d.size ≤ 512 := by omega
          generalize fillz d.data.toList 512 = F at *
          have HF := Lib.hid hF
          have hiF : i < F.length := by omega
          obtain ⟨x, hx⟩ : ∃ x, F.getD i 0 = x := ⟨_, rfl⟩
          rw [hx] at HT
          have HXF := Lib.hid (show ∀ h : i < F.length, F[i] = x from fun h => by rw [← hx, getD_at h])
          have hv := turned_bit x k hk7
          obtain ⟨G, hG⟩ : ∃ G, F.set i (x ^^^ UInt8.ofNat (2 ^ k)) = G := ⟨_, rfl⟩
          rw [hG] at HT
          have HG := Lib.hid hG
          have HGL := Lib.hid (show G.length = 512 by rw [← hG, List.length_set]; exact hF)
          have HV8 := Lib.hid hv
          have HK := Lib.hid hk
          have HIF := Lib.hid hiF
          have HS := Lib.hid hS
          have HSF := Lib.hid (show d.size ≤ (madeCells #[Value.int .u8 0] 512).size by rw [size_madeCells]; exact hS)
          have hmk0 := fun (W : World) => run_make_row' (P := Tryz.prog) (w := W) 54 5 (.int .u8 0) 1 Tryz.underlying54 infoByte1 rfl .i64 .i64 512 (by omega) (by omega)
          rw [show ((512 : Nat) : Int) = 512 from rfl] at hmk0
          have hmk := hmk0
          have q7 : decide ((i : Int) < 0) = false := by rw [decide_eq_false_iff_not]; omega
          have q8 : decide ((512 : Int) ≤ (i : Int)) = false := by rw [decide_eq_false_iff_not]; omega
          clear hx hl1 hF hG hv hk hiF hS hmk0 h0 h1 hk7 hsd HIS ha
          go_wp2_with (first | (refine wpList_fresh rfl 27 (.tmp 17) (.tmp 61) rfl cs _ _ rfl rfl (info4 HAT.out.size) HAT.out.size.symm (one4 HAT.out) ?_; intro w6 hb hr hz; have HB6 := Lib.hid (HBd.out.trans (hb.mono HBd.out.size)); clear hb hr hz HBd) | (refine wpList_copy_str rfl (.tmp 81) (.tmp 82) 54 9 rfl 5 Tryz.underlying54 info8 w6.heap.size 512 512 rfl d rfl (madeCells #[.int .u8 0] 512) 5 (heap_alloc_new w6 _) HS.out HSF.out ?_; rw [HCP.out]; have HR4 := Lib.hid (setRow_heap' (cs := (u8s F).toArray) (heap_alloc_new w6 (.cells (madeCells #[.int .u8 0] 512) 5))); have HB4 := Lib.hid (show Below w.heap.size w ((w6.alloc (.cells (madeCells #[.int .u8 0] 512) 5)).setRow w6.heap.size (u8s F).toArray) from (HB6.out.alloc HB6.out.size _).grown (grown_setRow _ _ _) (by have := HB6.out.size; simp; omega) (fun k hk => by cases hk; exact HB6.out.size)); have HG4 := Lib.hid (show w.heap.size ≤ w6.heap.size from HB6.out.size); generalize World.setRow _ _ _ = w4 at *; generalize w6.heap.size = g at *; have c4 : w4.cell? ⟨g, i, none⟩ = some (.int .u8 (x.toNat : Int)) := (by have := row_u8 HR4.out i HIF.out; rw [HXF.out HIF.out] at this; exact this); have f4 : w4.frozen? ⟨g, i, none⟩ = false := frozen_of_row _ _ _ _ _ HR4.out))
          have HR5 := Lib.hid (row_set (i := i) HR4.out (x ^^^ UInt8.ofNat (2 ^ k)))
          have HB5 := Lib.hid (fun u => HB4.out.setCell (p := ⟨g, i, none⟩) HG4.out u)
          rw [HG.out, ← HV8.out, HK.out] at HR5
          have HB5 := Lib.hid (HB5.out (.int .u8 (bits BinOp.xor IntKind.u8 (x.toNat : Int) (2 ^ (b % 8).toNat % 256))))
          generalize World.setCell _ _ _ = w5 at *
          clear c4 f4 q7 q8
          go_loop [20] (fun v => ∃ e : Nat, e ≤ 512 ∧ v = .int .i64 e ∧ Hid (cutz (G.take e) = cutz G)) (fun v => (intOf v).toNat)
          case atStart => exact ⟨512, Nat.le_refl _, by go_num, by show cutz (G.take 512) = cutz G; rw [List.take_of_length_le (by rw [HGL.out]; exact Nat.le_refl _)]⟩
          case round =>
            obtain ⟨e, he, rfl, hcut⟩ := hrel
            by_cases he0 : e = 0
            · have HTK := Lib.hid (show G.take e = cutz G by rw [← Hid.out hcut, he0]; rfl)
              subst he0
              clear hcut
              have hcv := conv_pre HR5.out (Nat.zero_le G.length) 512
              have HYS := Lib.hid (show (bs (G.take 0)).size ≤ 140737488351232 by rw [bs_size, List.length_take]; omega)
              have HYE := Lib.hid (show deX (bs (G.take 0)) = 9 by rw [HTK.out]; exact HT.out)
              generalize bs (G.take 0) = Y at *
              have HD := Lib.hid (fun w' => decode_su Y HYS.out w')
              rw [enc_tk, HYE.out] at HD
              have HYI := Lib.hid (infoSe (deV Y))
              have HYZ := Lib.hid (encS_sz (deV Y))
              have HYO := Lib.hid (all_oneCell_toArray (Ss.enc_one (deV Y)))
              generalize (Ss.enc (deV Y)).toArray = CY at *
              go_wp2_with fail
              refine (HD.out _).mono ?_
              rintro e8 w8 ⟨rfl, hb⟩
              have HB8 := Lib.hid (HB5.out.trans (hb.mono HB5.out.size))
              clear hb
              go_wp2_with (first
                | (refine wpList_fresh rfl 44 (.tmp 21) (.tmp 113) rfl CY zS 44 rfl rfl HYI.out HYZ.out HYO.out ?_; intro w9 hb hr hz; have HB9 := Lib.hid (HB8.out.trans (hb.mono HB8.out.size)); clear hb hr hz))
              go_ret
              exact ⟨rfl, HB9.out⟩
            · obtain ⟨j, hj⟩ : ∃ j, e = j + 1 := ⟨e - 1, by omega⟩
              have q9 : decide ((0 : Int) < (e : Int)) = true := by rw [decide_eq_true_iff]; omega
              have hk1 : (e : Int) - 1 = (j : Int) := by omega
              have hjl : j < G.length := by rw [HGL.out]; omega
              have hcj := row_u8 HR5.out j hjl
              by_cases hz : G[j] = 0
              · rw [hz] at hcj
                have hcj' : w5.cell? ⟨g, j, none⟩ = some (.int .u8 0) := hcj
                have HC2 := Lib.hid (show cutz (G.take j) = cutz G by rw [← cut_take hjl hz, ← hj]; exact Hid.out hcut)
                clear hcj hz hcut
                go_wp2_with fail
                exact ⟨⟨j, by omega, by go_num, HC2.out⟩, by simp [intOf] <;> omega⟩
              · have HTK := Lib.hid (show G.take e = cutz G by rw [← Hid.out hcut, hj, cut_stop hjl hz])
                have qz : (((G[j]).toNat : Int) == 0) = false := by
                  rw [beq_eq_false_iff_ne]; intro h; apply hz; apply UInt8.toNat_inj.1; exact Int.ofNat.inj h
                generalize G[j] = y at *
                clear hcut hz hj
                have hcv := conv_pre HR5.out (show e ≤ G.length by rw [HGL.out]; omega) 512
                have HYS := Lib.hid (show (bs (G.take e)).size ≤ 140737488351232 by rw [bs_size, List.length_take]; omega)
                have HYE := Lib.hid (show deX (bs (G.take e)) = 9 by rw [HTK.out]; exact HT.out)
                generalize bs (G.take e) = Y at *
                have HD := Lib.hid (fun w' => decode_su Y HYS.out w')
                rw [enc_tk, HYE.out] at HD
                have HYI := Lib.hid (infoSe (deV Y))
                have HYZ := Lib.hid (encS_sz (deV Y))
                have HYO := Lib.hid (all_oneCell_toArray (Ss.enc_one (deV Y)))
                generalize (Ss.enc (deV Y)).toArray = CY at *
                go_wp2_with fail
                refine (HD.out _).mono ?_
                rintro e8 w8 ⟨rfl, hb⟩
                have HB8 := Lib.hid (HB5.out.trans (hb.mono HB5.out.size))
                clear hb
                go_wp2_with (first
                  | (refine wpList_fresh rfl 44 (.tmp 21) (.tmp 113) rfl CY zS 44 rfl rfl HYI.out HYZ.out HYO.out ?_; intro w9 hb hr hz; have HB9 := Lib.hid (HB8.out.trans (hb.mono HB8.out.size)); clear hb hr hz))
                go_ret
                exact ⟨rfl, HB9.out⟩
        · have q2 : decide ((512 : Int) ≤ a) = true := by rw [decide_eq_true_iff]; omega
          clear hb8 ha HIS
          go_wp2_with (refine wpList_fresh rfl 27 (.tmp 17) (.tmp 61) rfl cs _ _ rfl rfl (info4 HAT.out.size) HAT.out.size.symm (one4 HAT.out) ?_; intro w6 hb hr hz; have HB6 := Lib.hid (HBd.out.trans (hb.mono HBd.out.size)); clear hb hr hz HBd)
          go_ret
          exact ⟨rfl, HB6.out⟩
    · have e2 := de_isn his
      rw [enc_tk, e2] at HDD
      have HUI := Lib.hid (infoSe (deV d))
      have HUZ := Lib.hid (encS_sz (deV d))
      have HUO := Lib.hid (all_oneCell_toArray (Ss.enc_one (deV d)))
      clear e2 his
      generalize (Ss.enc (deV d)).toArray = U at *
      try go_wp2_with fail
      refine (HDD.out _).mono ?_
      rintro e w3 ⟨rfl, hb⟩
      have HBa := Lib.hid (HBz.out.trans (hb.mono HBz.out.size))
      clear hb HBz HDD
      go_wp2_with (refine wpList_fresh rfl 44 (.tmp 13) (.tmp 47) rfl U zS 44 rfl rfl HUI.out HUZ.out HUO.out ?_; intro w4 hb hr hz; have HBb := Lib.hid (HBa.out.trans (hb.mono HBa.out.size)); clear hb hr hz)
      go_ret
      exact ⟨rfl, HBb.out⟩
  · cases hq0
end Go.Proofs.YtlchjohaacbkpaaGreatDoor.Sa
/- The walk of the law SuperBack. -/
namespace Go.Proofs.YtlchjohaacbkpaaGreatDoor.Sa
set_option linter.unusedVariables false
set_option linter.unusedSimpArgs false
open Go.ChangeShapes Go.WideShapes Go.ChangeAt Go.RowKit
open Sp Sb2 Nd Rg Ar
open BigFrame
open Pk (be num be_length u8s u8s_length)
set_option maxRecDepth 100000 in
set_option maxHeartbeats 8000000 in
theorem superBack_yes (w : World) (p : Su) (hl : p.lim) (d : ByteArray) (hd : d.size ≤ 140737488351232) (a b : Int) (hb8 : 0 ≤ b ∧ b ≤ 255) (ha : -9223372036854775808 ≤ a ∧ a ≤ 9223372036854775807) (hq0 : okS p = true) :
    Calls Tryz.prog 6 #[vS p, .string d, .int .i64 a, .int .u8 b] w fun e w' => e = .returned (.bool true) ∧ Below w.heap.size w w' := by
  have HL := Lib.hid (fun w => lives_su w)
  have HE := Lib.hid (fun w => encode_su p hl w)
  have hvp : vS p = .agg (Ss.enc p).toArray := by unfold vS; rw [Ss.enc_of hl.2.2.2]
  have EQ := Lib.hid (fun w => eq_super p p hl.2.2.2 hl.2.2.2 w)
  rw [(eqS_iff p p).2 rfl] at EQ
  have HPI := Lib.hid (infoSe p)
  have HPZ := Lib.hid (encS_sz p)
  have HPO := Lib.hid (all_oneCell_toArray (Ss.enc_one p))
  have HKN := Lib.hid (fun h : okS p = false => chS_no h)
  have HKY := Lib.hid (fun h : okS p = true => (chS_yes h).1)
  have HDE := Lib.hid (fun (h : okS p = true) (w : World) => (by have := decode_su (enS p) (by have := seal_le hl h; omega) w; rw [(de_en hl h).1, (de_en hl h).2, hvp] at this; exact this : Calls Tryz.prog 28 #[.string (enS p)] w fun e w' => e = .returned (.tuple #[.agg (Ss.enc p).toArray, .int .i64 0]) ∧ Below w.heap.size w w'))
  rw [hvp] at HE EQ ⊢
  clear hvp hl
  obtain ⟨q, hq⟩ : ∃ q, okS p = q := ⟨_, rfl⟩
  rw [hq] at HKN HKY HDE hq0
  obtain ⟨x, hx⟩ : ∃ q, chS p = q := ⟨_, rfl⟩
  obtain ⟨s, hs⟩ : ∃ q, enS p = q := ⟨_, rfl⟩
  obtain ⟨C, hC⟩ : ∃ q, (Ss.enc p).toArray = q := ⟨_, rfl⟩
  rw [hx, hs, hC] at HE
  rw [hC] at EQ HPI HPZ HPO ⊢
  rw [hs, hC] at HDE
  rw [hx, hs] at HKN
  rw [hx] at HKY
  clear hq hx hs hC
  have R0 := Lib.hid (heap_alloc_new w (.cells C 44))
  have B0 := Lib.hid ((Below.refl w.heap.size w).alloc (Nat.le_refl _) (.cells C 44))
  go_enter Tryz.func6, Tryz.ntmps6
  go_wp2_with fail
  generalize w.alloc _ = W at *
  refine (HL.out _).mono ?_
  rintro e w1 ⟨rfl, hb⟩
  have R1 := Lib.hid ((hb.block _ (row_lt R0.out)).trans R0.out)
  have B1 := Lib.hid (B0.out.trans (hb.mono B0.out.size))
  clear hb R0 B0 HL
  go_wp2_with (refine wpList_load_row rfl 44 (.tmp 4) rfl w.heap.size rfl 44 C (0, 0) _ R1.out Tryz.underlying44 rfl HPI.out ?_)
  refine (HE.out _).mono ?_
  rintro e w2 ⟨rfl, hb⟩
  have R2 := Lib.hid ((hb.block _ (row_lt R1.out)).trans R1.out)
  have B2 := Lib.hid (B1.out.trans (hb.mono B1.out.size))
  clear hb R1 B1 HE
  cases q
  · cases hq0
  · have f1 := HKY.out rfl
    have HDP := Lib.hid (HDE.out rfl)
    subst f1
    clear HKN HKY HDE
    go_wp2_with fail
    refine (HDP.out _).mono ?_
    rintro e wx ⟨rfl, hb⟩
    have Rx := Lib.hid ((hb.block _ (row_lt R2.out)).trans R2.out)
    have Bx := Lib.hid (B2.out.trans (hb.mono B2.out.size))
    clear hb R2 B2 HDP
    have heq := EQ.out
    have hgd := guardS
    go_wp2_with (first
      | (refine wpList_fresh rfl 44 (.tmp 11) (.tmp 35) rfl C zS 44 rfl rfl HPI.out HPZ.out HPO.out ?_; intro wy hb hr hz; have Ry := Lib.hid ((hb.block _ (row_lt Rx.out)).trans Rx.out); have HBz := Lib.hid (Bx.out.trans (hb.mono Bx.out.size)); have Qy := Lib.hid hr; clear hb hr hz)
      | (refine wpList_load_row_g 44 (.tmp 11) rfl (by rfl) wx.heap.size rfl 44 C (0, 0) _ Qy.out Tryz.underlying44 rfl HPI.out ?_)
      | (refine wpList_load_row_g 44 (.tmp 4) rfl (by rfl) w.heap.size rfl 44 C (0, 0) _ Ry.out Tryz.underlying44 rfl HPI.out ?_))
    have HDD := Lib.hid (fun w => decode_su d hd w)
    by_cases his : IsS d
    · obtain ⟨e1, e2⟩ := de_is his
      rw [enc_tk, e1, e2] at HDD
      have HEN := Lib.hid (fun w => encode_su (tkS d) (tkS_lim d) w)
      rw [his.2, (chS_yes his.1).1] at HEN
      have hv := enc_tk d
      rw [e1] at hv
      rw [hv] at HEN
      have HND := Lib.hid (fun w => dec_no d (by omega) (no_node his) w)
      have HIS := Lib.hid his
      have HUI := Lib.hid (infoSe (tkS d))
      have HUZ := Lib.hid (encS_sz (tkS d))
      have HUO := Lib.hid (all_oneCell_toArray (Ss.enc_one (tkS d)))
      clear e1 e2 hv his
      generalize (Ss.enc (tkS d)).toArray = U at *
      try go_wp2_with fail
      refine (HDD.out _).mono ?_
      rintro e w3 ⟨rfl, hb⟩
      have HBa := Lib.hid (HBz.out.trans (hb.mono HBz.out.size))
      clear hb HBz HDD
      go_wp2_with (first
        | (refine wpList_fresh rfl 44 (.tmp 13) (.tmp 47) rfl U zS 44 rfl rfl HUI.out HUZ.out HUO.out ?_; intro w4 hb hr hz; have HBb := Lib.hid (HBa.out.trans (hb.mono HBa.out.size)); have HR4 := Lib.hid hr; clear hb hr hz)
        | (refine wpList_load_row rfl 44 (.tmp 13) rfl w3.heap.size rfl 44 U (0, 0) _ HR4.out Tryz.underlying44 rfl HUI.out ?_))
      refine (HEN.out _).mono ?_
      rintro e w5 ⟨rfl, hb⟩
      have HBc := Lib.hid (HBb.out.trans (hb.mono HBb.out.size))
      clear hb HBa HBb HR4 HEN
      go_wp2_with fail
      refine (HND.out _).mono ?_
      rintro e w5b ⟨cs, rfl, ho, hat⟩
      have HBd := Lib.hid (HBc.out.trans (ho.bel.mono HBc.out.size))
      have HAT := Lib.hid hat
      clear ho hat HBc HND
      have e0 : (d.toList != d.toList) = false := by simp
      by_cases h0 : a < 0
      · clear hb8 ha HIS
        go_wp2_with (refine wpList_fresh rfl 27 (.tmp 17) (.tmp 61) rfl cs _ _ rfl rfl (info4 HAT.out.size) HAT.out.size.symm (one4 HAT.out) ?_; intro w6 hb hr hz; have HB6 := Lib.hid (HBd.out.trans (hb.mono HBd.out.size)); clear hb hr hz HBd)
        go_ret
        exact ⟨rfl, HB6.out⟩
      · by_cases h1 : a < 512
        · obtain ⟨i, rfl⟩ : ∃ d : Nat, a = d := ⟨a.toNat, by omega⟩
          have hi : i < 512 := by omega
          have hl1 := is_len HIS.out
          obtain ⟨k, hk⟩ : ∃ k, k = (b % 8).toNat := ⟨_, rfl⟩
          have hk7 : k ≤ 7 := by omega
          have hF := fillz_len (l := d.data.toList) (m := 512) hl1
          have HT := Lib.hid (turned_su HIS.out i k hi hk7 hF)
          have hsd : d.data.toList.length = d.size := by rw [Array.length_toList]; rfl
          have HCP := Lib.hid (show ((madeCells #[Value.int .u8 0] 512).toList.take 0 ++ Lib.byteCells d.data.toList ++ (madeCells #[Value.int .u8 0] 512).toList.drop (0 + d.size)).toArray = (u8s (fillz d.data.toList 512)).toArray by rw [← hsd]; exact cells_made _ hl1)
          have hS : d.size ≤ 512 := by omega
          generalize fillz d.data.toList 512 = F at *
          have HF := Lib.hid hF
          have hiF : i < F.length := by omega
          obtain ⟨x, hx⟩ : ∃ x, F.getD i 0 = x := ⟨_, rfl⟩
          rw [hx] at HT
          have HXF := Lib.hid (show ∀ h : i < F.length, F[i] = x from fun h => by rw [← hx, getD_at h])
          have hv := turned_bit x k hk7
          obtain ⟨G, hG⟩ : ∃ G, F.set i (x ^^^ UInt8.ofNat (2 ^ k)) = G := ⟨_, rfl⟩
          rw [hG] at HT
          have HG := Lib.hid hG
          have HGL := Lib.hid (show G.length = 512 by rw [← hG, List.length_set]; exact hF)
          have HV8 := Lib.hid hv
          have HK := Lib.hid hk
          have HIF := Lib.hid hiF
          have HS := Lib.hid hS
          have HSF := Lib.hid (show d.size ≤ (madeCells #[Value.int .u8 0] 512).size by rw [size_madeCells]; exact hS)
          have hmk0 := fun (W : World) => run_make_row' (P := Tryz.prog) (w := W) 54 5 (.int .u8 0) 1 Tryz.underlying54 infoByte1 rfl .i64 .i64 512 (by omega) (by omega)
          rw [show ((512 : Nat) : Int) = 512 from rfl] at hmk0
          have hmk := hmk0
          have q7 : decide ((i : Int) < 0) = false := by rw [decide_eq_false_iff_not]; omega
          have q8 : decide ((512 : Int) ≤ (i : Int)) = false := by rw [decide_eq_false_iff_not]; omega
          clear hx hl1 hF hG hv hk hiF hS hmk0 h0 h1 hk7 hsd HIS ha
          go_wp2_with (first | (refine wpList_fresh rfl 27 (.tmp 17) (.tmp 61) rfl cs _ _ rfl rfl (info4 HAT.out.size) HAT.out.size.symm (one4 HAT.out) ?_; intro w6 hb hr hz; have HB6 := Lib.hid (HBd.out.trans (hb.mono HBd.out.size)); clear hb hr hz HBd) | (refine wpList_copy_str rfl (.tmp 81) (.tmp 82) 54 9 rfl 5 Tryz.underlying54 info8 w6.heap.size 512 512 rfl d rfl (madeCells #[.int .u8 0] 512) 5 (heap_alloc_new w6 _) HS.out HSF.out ?_; rw [HCP.out]; have HR4 := Lib.hid (setRow_heap' (cs := (u8s F).toArray) (heap_alloc_new w6 (.cells (madeCells #[.int .u8 0] 512) 5))); have HB4 := Lib.hid (show Below w.heap.size w ((w6.alloc (.cells (madeCells #[.int .u8 0] 512) 5)).setRow w6.heap.size (u8s F).toArray) from (HB6.out.alloc HB6.out.size _).grown (grown_setRow _ _ _) (by have := HB6.out.size; simp; omega) (fun k hk => by cases hk; exact HB6.out.size)); have HG4 := Lib.hid (show w.heap.size ≤ w6.heap.size from HB6.out.size); generalize World.setRow _ _ _ = w4 at *; generalize w6.heap.size = g at *; have c4 : w4.cell? ⟨g, i, none⟩ = some (.int .u8 (x.toNat : Int)) := (by have := row_u8 HR4.out i HIF.out; rw [HXF.out HIF.out] at this; exact this); have f4 : w4.frozen? ⟨g, i, none⟩ = false := frozen_of_row _ _ _ _ _ HR4.out))
          have HR5 := Lib.hid (row_set (i := i) HR4.out (x ^^^ UInt8.ofNat (2 ^ k)))
          have HB5 := Lib.hid (fun u => HB4.out.setCell (p := ⟨g, i, none⟩) HG4.out u)
          rw [HG.out, ← HV8.out, HK.out] at HR5
          have HB5 := Lib.hid (HB5.out (.int .u8 (bits BinOp.xor IntKind.u8 (x.toNat : Int) (2 ^ (b % 8).toNat % 256))))
          generalize World.setCell _ _ _ = w5 at *
          clear c4 f4 q7 q8
          go_loop [20] (fun v => ∃ e : Nat, e ≤ 512 ∧ v = .int .i64 e ∧ Hid (cutz (G.take e) = cutz G)) (fun v => (intOf v).toNat)
          case atStart => exact ⟨512, Nat.le_refl _, by go_num, by show cutz (G.take 512) = cutz G; rw [List.take_of_length_le (by rw [HGL.out]; exact Nat.le_refl _)]⟩
          case round =>
            obtain ⟨e, he, rfl, hcut⟩ := hrel
            by_cases he0 : e = 0
            · have HTK := Lib.hid (show G.take e = cutz G by rw [← Hid.out hcut, he0]; rfl)
              subst he0
              clear hcut
              have hcv := conv_pre HR5.out (Nat.zero_le G.length) 512
              have HYS := Lib.hid (show (bs (G.take 0)).size ≤ 140737488351232 by rw [bs_size, List.length_take]; omega)
              have HYE := Lib.hid (show deX (bs (G.take 0)) = 9 by rw [HTK.out]; exact HT.out)
              generalize bs (G.take 0) = Y at *
              have HD := Lib.hid (fun w' => decode_su Y HYS.out w')
              rw [enc_tk, HYE.out] at HD
              have HYI := Lib.hid (infoSe (deV Y))
              have HYZ := Lib.hid (encS_sz (deV Y))
              have HYO := Lib.hid (all_oneCell_toArray (Ss.enc_one (deV Y)))
              generalize (Ss.enc (deV Y)).toArray = CY at *
              go_wp2_with fail
              refine (HD.out _).mono ?_
              rintro e8 w8 ⟨rfl, hb⟩
              have HB8 := Lib.hid (HB5.out.trans (hb.mono HB5.out.size))
              clear hb
              go_wp2_with (first
                | (refine wpList_fresh rfl 44 (.tmp 21) (.tmp 113) rfl CY zS 44 rfl rfl HYI.out HYZ.out HYO.out ?_; intro w9 hb hr hz; have HB9 := Lib.hid (HB8.out.trans (hb.mono HB8.out.size)); clear hb hr hz))
              go_ret
              exact ⟨rfl, HB9.out⟩
            · obtain ⟨j, hj⟩ : ∃ j, e = j + 1 := ⟨e - 1, by omega⟩
              have q9 : decide ((0 : Int) < (e : Int)) = true := by rw [decide_eq_true_iff]; omega
              have hk1 : (e : Int) - 1 = (j : Int) := by omega
              have hjl : j < G.length := by rw [HGL.out]; omega
              have hcj := row_u8 HR5.out j hjl
              by_cases hz : G[j] = 0
              · rw [hz] at hcj
                have hcj' : w5.cell? ⟨g, j, none⟩ = some (.int .u8 0) := hcj
                have HC2 := Lib.hid (show cutz (G.take j) = cutz G by rw [← cut_take hjl hz, ← hj]; exact Hid.out hcut)
                clear hcj hz hcut
                go_wp2_with fail
                exact ⟨⟨j, by omega, by go_num, HC2.out⟩, by simp [intOf] <;> omega⟩
              · have HTK := Lib.hid (show G.take e = cutz G by rw [← Hid.out hcut, hj, cut_stop hjl hz])
                have qz : (((G[j]).toNat : Int) == 0) = false := by
                  rw [beq_eq_false_iff_ne]; intro h; apply hz; apply UInt8.toNat_inj.1; exact Int.ofNat.inj h
                generalize G[j] = y at *
                clear hcut hz hj
                have hcv := conv_pre HR5.out (show e ≤ G.length by rw [HGL.out]; omega) 512
                have HYS := Lib.hid (show (bs (G.take e)).size ≤ 140737488351232 by rw [bs_size, List.length_take]; omega)
                have HYE := Lib.hid (show deX (bs (G.take e)) = 9 by rw [HTK.out]; exact HT.out)
                generalize bs (G.take e) = Y at *
                have HD := Lib.hid (fun w' => decode_su Y HYS.out w')
                rw [enc_tk, HYE.out] at HD
                have HYI := Lib.hid (infoSe (deV Y))
                have HYZ := Lib.hid (encS_sz (deV Y))
                have HYO := Lib.hid (all_oneCell_toArray (Ss.enc_one (deV Y)))
                generalize (Ss.enc (deV Y)).toArray = CY at *
                go_wp2_with fail
                refine (HD.out _).mono ?_
                rintro e8 w8 ⟨rfl, hb⟩
                have HB8 := Lib.hid (HB5.out.trans (hb.mono HB5.out.size))
                clear hb
                go_wp2_with (first
                  | (refine wpList_fresh rfl 44 (.tmp 21) (.tmp 113) rfl CY zS 44 rfl rfl HYI.out HYZ.out HYO.out ?_; intro w9 hb hr hz; have HB9 := Lib.hid (HB8.out.trans (hb.mono HB8.out.size)); clear hb hr hz))
                go_ret
                exact ⟨rfl, HB9.out⟩
        · have q2 : decide ((512 : Int) ≤ a) = true := by rw [decide_eq_true_iff]; omega
          clear hb8 ha HIS
          go_wp2_with (refine wpList_fresh rfl 27 (.tmp 17) (.tmp 61) rfl cs _ _ rfl rfl (info4 HAT.out.size) HAT.out.size.symm (one4 HAT.out) ?_; intro w6 hb hr hz; have HB6 := Lib.hid (HBd.out.trans (hb.mono HBd.out.size)); clear hb hr hz HBd)
          go_ret
          exact ⟨rfl, HB6.out⟩
    · have e2 := de_isn his
      rw [enc_tk, e2] at HDD
      have HUI := Lib.hid (infoSe (deV d))
      have HUZ := Lib.hid (encS_sz (deV d))
      have HUO := Lib.hid (all_oneCell_toArray (Ss.enc_one (deV d)))
      clear e2 his
      generalize (Ss.enc (deV d)).toArray = U at *
      try go_wp2_with fail
      refine (HDD.out _).mono ?_
      rintro e w3 ⟨rfl, hb⟩
      have HBa := Lib.hid (HBz.out.trans (hb.mono HBz.out.size))
      clear hb HBz HDD
      go_wp2_with (refine wpList_fresh rfl 44 (.tmp 13) (.tmp 47) rfl U zS 44 rfl rfl HUI.out HUZ.out HUO.out ?_; intro w4 hb hr hz; have HBb := Lib.hid (HBa.out.trans (hb.mono HBa.out.size)); clear hb hr hz)
      go_ret
      exact ⟨rfl, HBb.out⟩
end Go.Proofs.YtlchjohaacbkpaaGreatDoor.Sa
/- The walk of the law SuperBack. -/
namespace Go.Proofs.YtlchjohaacbkpaaGreatDoor.Sa
open Go.ChangeShapes Go.WideShapes Go.ChangeAt Go.RowKit
open Sp
theorem superBack_walk (w : World) (p : Su) (hl : p.lim) (d : ByteArray) (hd : d.size ≤ 140737488351232) (a b : Int) (hb8 : 0 ≤ b ∧ b ≤ 255) (ha : -9223372036854775808 ≤ a ∧ a ≤ 9223372036854775807) :
    Calls Tryz.prog 6 #[vS p, .string d, .int .i64 a, .int .u8 b] w fun e w' => e = .returned (.bool true) ∧ Below w.heap.size w w' := by
  cases hq : okS p
  · exact superBack_no w p hl d hd a b hb8 ha hq
  · exact superBack_yes w p hl d hd a b hb8 ha hq
end Go.Proofs.YtlchjohaacbkpaaGreatDoor.Sa
