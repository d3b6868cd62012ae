/- The laws' own question of package super. -/
import Derived.Test.YtlchjohaacbkpaaGreatDoorZrg
import Derived.Test.YtlchjohaacbkpaaGreatDoorSuO
namespace Go.Proofs.YtlchjohaacbkpaaGreatDoor.Sp
set_option linter.unusedVariables false
set_option linter.unusedSimpArgs false
open Go.ChangeShapes Go.WideShapes Go.ChangeAt Go.RowKit
open Nd Rg Ar
open BigFrame
open Pk (be num be_length u8s u8s_length)
def l4 : Su := ⟨16, 4, 2, List.replicate 32 0⟩
def l5 : Su := ⟨16, 5, 3, List.replicate 32 0⟩
def l6 : Su := ⟨16, 4, 16, List.replicate 32 0⟩
theorem lim4 : l4.lim := ⟨by decide, by decide, by decide, by decide⟩
theorem lim5 : l5.lim := ⟨by decide, by decide, by decide, by decide⟩
theorem lim6 : l6.lim := ⟨by decide, by decide, by decide, by decide⟩
theorem ok4 : okS l4 = true := by decide
theorem ok5 : okS l5 = true := by decide
theorem ok6 : okS l6 = false := by decide
theorem row4 : vS l4 = .agg #[.int .u32 16, .int .u64 4, .int .u32 2, .int .u8 0, .int .u8 0, .int .u8 0, .int .u8 0, .int .u8 0, .int .u8 0, .int .u8 0, .int .u8 0, .int .u8 0, .int .u8 0, .int .u8 0, .int .u8 0, .int .u8 0, .int .u8 0, .int .u8 0, .int .u8 0, .int .u8 0, .int .u8 0, .int .u8 0, .int .u8 0, .int .u8 0, .int .u8 0, .int .u8 0, .int .u8 0, .int .u8 0, .int .u8 0, .int .u8 0, .int .u8 0, .int .u8 0, .int .u8 0, .int .u8 0, .int .u8 0] := by kernel_rfl
theorem row5 : vS l5 = .agg #[.int .u32 16, .int .u64 5, .int .u32 3, .int .u8 0, .int .u8 0, .int .u8 0, .int .u8 0, .int .u8 0, .int .u8 0, .int .u8 0, .int .u8 0, .int .u8 0, .int .u8 0, .int .u8 0, .int .u8 0, .int .u8 0, .int .u8 0, .int .u8 0, .int .u8 0, .int .u8 0, .int .u8 0, .int .u8 0, .int .u8 0, .int .u8 0, .int .u8 0, .int .u8 0, .int .u8 0, .int .u8 0, .int .u8 0, .int .u8 0, .int .u8 0, .int .u8 0, .int .u8 0, .int .u8 0, .int .u8 0] := by kernel_rfl
theorem row6 : vS l6 = .agg #[.int .u32 16, .int .u64 4, .int .u32 16, .int .u8 0, .int .u8 0, .int .u8 0, .int .u8 0, .int .u8 0, .int .u8 0, .int .u8 0, .int .u8 0, .int .u8 0, .int .u8 0, .int .u8 0, .int .u8 0, .int .u8 0, .int .u8 0, .int .u8 0, .int .u8 0, .int .u8 0, .int .u8 0, .int .u8 0, .int .u8 0, .int .u8 0, .int .u8 0, .int .u8 0, .int .u8 0, .int .u8 0, .int .u8 0, .int .u8 0, .int .u8 0, .int .u8 0, .int .u8 0, .int .u8 0, .int .u8 0] := by kernel_rfl
set_option maxRecDepth 100000 in
theorem lv4 : (sealL (wS l4)).length = 22 ∧ ((sealL (wS l4)).drop 4).take 2 = [67, 66] := by decide +kernel
theorem seal_le {s : Su} (l : s.lim) (h : okS s = true) : (enS s).size ≤ 512 := by
  rw [(chS_yes h).2, bs_size]
  exact seal_len (by rw [wS_len l.2.2.2]; omega)
theorem in_en {s : Su} (l : s.lim) (h : okS s = true) (i : Nat) : inS (enS s) i = if slotS s = i then [s] else [] := by
  unfold inS
  rw [tk_enS l h]
  by_cases hs : slotS s = i
  · rw [if_pos ⟨isS_en l h, hs⟩, if_pos hs]
  · rw [if_neg (fun h' => hs h'.2), if_neg hs]
theorem ord45 : ordS (enS l4) (enS l5) = [l5, l4] := by
  unfold ordS
  rw [in_en lim4 ok4, in_en lim5 ok5, if_pos (show slotS l4 = 0 from rfl), if_pos (show slotS l5 = 1 from rfl)]
  unfold ord2
  exact if_pos (show l4.G < l5.G from by decide)
theorem ord54 : ordS (enS l5) (enS l4) = [] := by
  unfold ordS
  rw [in_en lim4 ok4, in_en lim5 ok5, if_neg (show ¬ slotS l5 = 0 from by decide), if_neg (show ¬ slotS l4 = 1 from by decide)]
  rfl
set_option maxRecDepth 100000 in
set_option maxHeartbeats 8000000 in
theorem lives_su (w : World) : Calls Tryz.prog 30 #[] w fun e w' => e = .returned (.bool true) ∧ Below w.heap.size w w' := by
  have HE4 := Lib.hid (fun w => encode_su l4 lim4 w)
  have HE5 := Lib.hid (fun w => encode_su l5 lim5 w)
  have HE6 := Lib.hid (fun w => encode_su l6 lim6 w)
  rw [row4, (chS_yes ok4).1] at HE4
  rw [row5, (chS_yes ok5).1] at HE5
  rw [row6, (chS_no ok6).1, (chS_no ok6).2] at HE6
  have s4 := seal_le lim4 ok4
  have s5 := seal_le lim5 ok5
  have HDE := Lib.hid (fun w => decode_su (enS l4) (by omega) w)
  rw [(de_en lim4 ok4).1, (de_en lim4 ok4).2] at HDE
  have HO1 := Lib.hid (fun w => order_su (enS l4) (enS l5) (by omega) (by omega) w)
  have HO2 := Lib.hid (fun w => (show Calls Tryz.prog 35 #[.string (enS l5), .string (enS l4)] w (fun e w' => e = .returned (.slice none 0 0) ∧ Below w.heap.size w w') from
    (order_su (enS l5) (enS l4) (by omega) (by omega) w).mono (by rintro e w' ⟨v, h1, h2, h3, h4⟩; exact ⟨by rw [h1, h2 ord54], h4⟩)))
  rw [ord45] at HO1
  have HSL := Lib.hid (fun w => slot_any l4 w)
  rw [show slotS l4 = 0 from rfl] at HSL
  have h22 : (enS l4).size = 22 := by rw [(chS_yes ok4).2, bs_size]; exact lv4.1
  have HX := Lib.hid (show (enS l4).extract 4 6 = ⟨#[67, 66]⟩ by
    apply ByteArray.ext
    apply Array.toList_inj.1
    rw [ByteArray.data_extract, Array.toList_extract, List.extract_eq_take_drop, (chS_yes ok4).2, bs_data]
    exact lv4.2)
  have hv4 : vS l4 = .agg (Ss.enc l4).toArray := by unfold vS; rw [Ss.enc_of lim4.2.2.2]
  rw [hv4] at HDE HSL
  have HCI := Lib.hid (infoSe l4)
  have HCZ := Lib.hid (encS_sz l4)
  have HCO := Lib.hid (all_oneCell_toArray (Ss.enc_one l4))
  have HC1 := Lib.hid (show (Ss.enc l4).toArray[1]? = some (.int .u64 4) by rfl)
  have HC2 := Lib.hid (show (Ss.enc l4).toArray[2]? = some (.int .u32 2) by rfl)
  obtain ⟨C, hC⟩ : ∃ C, (Ss.enc l4).toArray = C := ⟨_, rfl⟩
  obtain ⟨s, hs⟩ : ∃ C, enS l4 = C := ⟨_, rfl⟩
  obtain ⟨t, ht⟩ : ∃ C, enS l5 = C := ⟨_, rfl⟩
  rw [hC] at HDE HSL HCI HCZ HCO HC1 HC2
  rw [hs] at HE4 HDE HO1 HO2 h22 HX
  rw [ht] at HE5 HO1 HO2
  clear s4 s5 hv4 hC hs ht
  have HS6 := Lib.hid (show decide ((6 : Int) < (s.size : Int)) = true by rw [h22]; rfl)
  have HS6b := Lib.hid (show (6 : Int) ≤ (s.size : Int) by omega)
  clear h22
  go_enter Tryz.func30, Tryz.ntmps30
  go_wp2_with fail
  refine (HE4.out _).mono ?_
  rintro e w1 ⟨rfl, hb⟩
  have B1 := Lib.hid hb
  clear hb HE4
  go_wp2_with fail
  refine (HE5.out _).mono ?_
  rintro e w2 ⟨rfl, hb⟩
  have B2 := Lib.hid (B1.out.trans (hb.mono B1.out.size))
  clear hb HE5 B1
  go_wp2_with fail
  refine (HDE.out _).mono ?_
  rintro e w3 ⟨rfl, hb⟩
  have B3 := Lib.hid (B2.out.trans (hb.mono B2.out.size))
  clear hb HDE B2
  go_wp2_with (refine wpList_fresh rfl 44 (.tmp 5) (.tmp 23) rfl C zS 44 rfl rfl HCI.out HCZ.out HCO.out ?_; intro w4 hb hrow hsz; have HQ4 := Lib.hid hrow; have B4 := Lib.hid (B3.out.trans (hb.mono B3.out.size)); clear hb hrow hsz B3)
  refine (HE6.out _).mono ?_
  rintro e w5 ⟨rfl, hb⟩
  have B5 := Lib.hid (B4.out.trans (hb.mono B4.out.size))
  have HQ5 := Lib.hid ((hb.block _ (row_lt HQ4.out)).trans HQ4.out)
  clear hb HE6 B4 HQ4
  go_wp2_with fail
  refine (HO1.out _).mono ?_
  rintro e w6 ⟨v, rfl, _, ⟨A, n, c, rfl, hn, hc, hL⟩, hb⟩
  have B6 := Lib.hid (B5.out.trans (hb.mono B5.out.size))
  have HQ6 := Lib.hid ((hb.block _ (row_lt HQ5.out)).trans HQ5.out)
  have hn : n = 2 := hn
  subst hn
  obtain ⟨b, o, rfl, kb, hr⟩ := hL 0 l5 rfl
  have d5 : w6.cell? ⟨b, o + 1, none⟩ = some (.int .u64 5) := by
    have := hr 1 (.int .u64 5) rfl
    simpa using this
  have d1 : w6.cell? ⟨w3.heap.size, 1, none⟩ = some (.int .u64 4) := (cell_of_row _ _ 1 _ _ _ HQ6.out).trans HC1.out
  have d2 : w6.cell? ⟨w3.heap.size, 2, none⟩ = some (.int .u32 2) := (cell_of_row _ _ 2 _ _ _ HQ6.out).trans HC2.out
  have k0 := row_lt HQ6.out
  clear hb hr hL HO1 B5 HQ5
  have h6 := HS6.out
  have h6b := HS6b.out
  have hx := HX.out
  go_wp2_with fail
  refine (HO2.out _).mono ?_
  rintro e w7 ⟨rfl, hb⟩
  have B7 := Lib.hid (B6.out.trans (hb.mono B6.out.size))
  have HQ7 := Lib.hid ((hb.block _ (row_lt HQ6.out)).trans HQ6.out)
  clear hb HO2 B6 HQ6 d1 d2 d5
  go_wp2_with (refine wpList_load_row_g 44 (.tmp 5) rfl (by rfl) w3.heap.size rfl 44 C (0, 0) _ HQ7.out Tryz.underlying44 rfl HCI.out ?_)
  refine (HSL.out _).mono ?_
  rintro e w8 ⟨rfl, hb⟩
  have B8 := Lib.hid (B7.out.trans (hb.mono B7.out.size))
  clear hb HSL B7 HQ7
  go_wp2
  go_ret
  exact ⟨rfl, B8.out⟩
end Go.Proofs.YtlchjohaacbkpaaGreatDoor.Sp
