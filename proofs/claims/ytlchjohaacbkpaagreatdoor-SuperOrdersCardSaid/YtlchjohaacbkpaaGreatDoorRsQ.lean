/- The walk of the law SuperOrders. -/
import Derived.Test.YtlchjohaacbkpaaGreatDoorRsP
import Derived.Test.YtlchjohaacbkpaaGreatDoorSuP
import Derived.Test.YtlchjohaacbkpaaGreatDoorSuF
namespace Go.Proofs.YtlchjohaacbkpaaGreatDoor.Sa
set_option linter.unusedVariables false
set_option linter.unusedSimpArgs false
open Go.ChangeShapes Go.WideShapes Go.ChangeAt Go.RowKit
open Sp Nd Rs Rg Ar
open BigFrame
theorem sat_get {w : World} {A : Option Addr} {n c : Nat} {L : List Su} (h : SAt w (.slice A n c) L) {i : Nat} {x : Su} (hx : L[i]? = some x) : ∃ g o, A = some ⟨g, o, none⟩ ∧ g < w.heap.size ∧ w.rangeAt g (o + i * 35) (Ss.enc x) := by
  obtain ⟨A', n', c', e1, e2, e3, hL⟩ := h
  cases e1
  obtain ⟨g, o, hA, hlt, hr⟩ := hL i x hx
  exact ⟨g, o, hA, hlt, hr⟩
set_option maxRecDepth 100000 in
set_option maxHeartbeats 8000000 in
theorem superOrders_walk (w : World) (a b : ByteArray) (za : a.size ≤ 140737488351232) (zb : b.size ≤ 140737488351232) :
    Calls Tryz.prog 5 #[.string a, .string b] w fun e w' => e = .returned (.bool true) ∧ Below w.heap.size w w' := by
  have HL := Lib.hid (fun w => lives_su w)
  have HO := Lib.hid (fun w => order_su a b za zb w)
  have HP := Lib.hid (fun w => rorder_su a b za zb w)
  have HAT := Lib.hid (ordS_what a b).1
  have HLE := Lib.hid (ordS_what a b).2.2.1
  clear za zb
  obtain ⟨L, hL⟩ : ∃ L, ordS a b = L := ⟨_, rfl⟩
  rw [hL] at HO HP HAT HLE
  clear hL
  go_enter Tryz.func5, Tryz.ntmps5
  go_wp2_with fail
  refine (HO.out _).mono ?_
  rintro e w1 ⟨v, rfl, _, hs, hb⟩
  obtain ⟨A, n, c, hv, hn⟩ : ∃ A n c, v = .slice A n c ∧ n = L.length := by
    obtain ⟨A, n, c, h1, h2, _⟩ := hs
    exact ⟨A, n, c, h1, h2⟩
  subst hv
  have HS1 := Lib.hid hs
  have HB1 := Lib.hid hb
  have HN := Lib.hid hn
  have HN3 := Lib.hid (show n ≤ 2 by rw [hn]; exact HLE.out)
  clear hs hb HO hn HLE
  go_wp2_with fail
  refine (HP.out _).mono ?_
  rintro e w2 ⟨v, rfl, hs, hb⟩
  obtain ⟨A2, n2, c2, hv, hn2⟩ : ∃ A n c, v = .slice A n c ∧ n = L.length := by
    obtain ⟨A, n, c, h1, h2, _⟩ := hs
    exact ⟨A, n, c, h1, h2⟩
  subst hv
  obtain rfl : n2 = n := hn2.trans HN.out.symm
  have HS2 := Lib.hid (HS1.out.below hb)
  have HT2 := Lib.hid hs
  have HB2 := Lib.hid (HB1.out.trans (hb.mono HB1.out.size))
  clear hs hb HP HS1 HB1 hn2
  go_wp2_with fail
  refine (HL.out _).mono ?_
  rintro e w3 ⟨rfl, hb⟩
  have HS3 := Lib.hid (HS2.out.below hb)
  have HT3 := Lib.hid (HT2.out.below hb)
  have HB3 := Lib.hid (HB2.out.trans (hb.mono HB2.out.size))
  clear hb HL HS2 HT2 HB2
  have t0 : (((n2 : Nat) : Int) != (n2 : Int)) = false := by simp
  go_wp2_with fail
  go_loopw [25] (fun u wr => ∃ i : Nat, i ≤ n2 ∧ u = .int .i64 i ∧ Hid (SAt wr (.slice A n2 c) L) ∧ Hid (SAt wr (.slice A2 n2 c2) L) ∧ Hid (Below w.heap.size w wr)) (fun u _ => n2 - (intOf u).toNat)
  case atStart => exact ⟨0, Nat.zero_le _, by go_num, HS3.out, HT3.out, HB3.out⟩
  case round =>
    clear HS3 HT3 HB3
    obtain ⟨i, hi, rfl, hs1, hs2, hbel⟩ := hrel
    by_cases hlt : i < n2
    · have hn3 : n2 ≤ 2 := HN3.out
      obtain ⟨x, hx⟩ : ∃ x, L[i]? = some x := ⟨_, List.getElem?_eq_getElem (by rw [← HN.out]; exact hlt)⟩
      obtain ⟨hxl, _⟩ := HAT.out x (List.mem_of_getElem? hx)
      have EQ := Lib.hid (fun w => eq_super x x hxl.2.2.2 hxl.2.2.2 w)
      rw [(eqS_iff x x).2 rfl, show vS x = .agg (Ss.enc x).toArray by unfold vS; rw [Ss.enc_of hxl.2.2.2]] at EQ
      obtain ⟨g, o, rfl, k1, hr1⟩ := sat_get (Hid.out hs1) hx
      obtain ⟨g2, o2, rfl, k2, hr2⟩ := sat_get (Hid.out hs2) hx
      have HR1 := Lib.hid hr1
      have HR2 := Lib.hid hr2
      clear hr1 hr2 hxl hx
      have q1 : (i : Int) < (n2 : Int) := by omega
      have q2 : decide ((i : Int) < (n2 : Int)) = true := by simp; omega
      go_wp2_with fail
      refine wp_region_G (fun w' => Below wr.heap.size wr w') (by kernel_rfl) (by kernel_rfl) (Below.refl _ _).drew ?_
      refine wpG_val (.slice (some ⟨g, o, none⟩) n2 c) rfl (by rfl) (fun w' hSw => by go_simp) ?_
      simp only [List.setIfInBounds_toArray, List.set_cons_zero, List.set_cons_succ]
      refine wpG_val (.int .i64 (i : Int)) rfl (by rfl) (fun w' hSw => by go_simp) ?_
      simp only [List.setIfInBounds_toArray, List.set_cons_zero, List.set_cons_succ]
      refine wpG_val (.pointer (some ⟨g, o + i * 35, none⟩)) rfl (by rfl) (fun w' hSw => by go_simp) ?_
      simp only [List.setIfInBounds_toArray, List.set_cons_zero, List.set_cons_succ]
      refine wpG_val (.agg (Ss.enc x).toArray) rfl (by rfl) (fun w' hSw => by have r : w'.rangeAt g (o + i * 35) (Ss.enc x) := (fun j u hu => (Below.cell hSw (p := ⟨g, o + i * 35 + j, none⟩) k1).trans (HR1.out j u hu)); exact load_run 44 (.tmp 30) rfl g (o + i * 35) rfl (Ss.enc x) _ r Tryz.underlying44 rfl (by rw [Ss.enc_len]; exact infoS35)) ?_
      simp only [List.setIfInBounds_toArray, List.set_cons_zero, List.set_cons_succ]
      refine wpG_val (.slice (some ⟨g2, o2, none⟩) n2 c2) rfl (by rfl) (fun w' hSw => by go_simp) ?_
      simp only [List.setIfInBounds_toArray, List.set_cons_zero, List.set_cons_succ]
      refine wpG_val (.int .i64 (i : Int)) rfl (by rfl) (fun w' hSw => by go_simp) ?_
      simp only [List.setIfInBounds_toArray, List.set_cons_zero, List.set_cons_succ]
      refine wpG_val (.pointer (some ⟨g2, o2 + i * 35, none⟩)) rfl (by rfl) (fun w' hSw => by go_simp) ?_
      simp only [List.setIfInBounds_toArray, List.set_cons_zero, List.set_cons_succ]
      refine wpG_val (.agg (Ss.enc x).toArray) rfl (by rfl) (fun w' hSw => by have r : w'.rangeAt g2 (o2 + i * 35) (Ss.enc x) := (fun j u hu => (Below.cell hSw (p := ⟨g2, o2 + i * 35 + j, none⟩) k2).trans (HR2.out j u hu)); exact load_run 44 (.tmp 34) rfl g2 (o2 + i * 35) rfl (Ss.enc x) _ r Tryz.underlying44 rfl (by rw [Ss.enc_len]; exact infoS35)) ?_
      simp only [List.setIfInBounds_toArray, List.set_cons_zero, List.set_cons_succ]
      refine wpG_val (.bool false) rfl (by rfl) (fun w' hSw => by have h := EQ.out; have g := guardS; go_simp) ?_
      simp only [List.setIfInBounds_toArray, List.set_cons_zero, List.set_cons_succ]
      refine wpG_nil ?_
      intro wS hSw
      have HX1 := Lib.hid ((Hid.out hs1).below hSw)
      have HX2 := Lib.hid ((Hid.out hs2).below hSw)
      have HXB := Lib.hid ((Hid.out hbel).trans (hSw.mono (Hid.out hbel).size))
      clear hs1 hs2 hbel
      go_wp2
      exact ⟨⟨i + 1, by omega, by go_num, HX1.out, HX2.out, HXB.out⟩, by simp [intOf] <;> omega⟩
    · have q2 : decide ((i : Int) < (n2 : Int)) = false := by simp; omega
      go_wp2
      go_ret
      exact ⟨rfl, Hid.out hbel⟩
end Go.Proofs.YtlchjohaacbkpaaGreatDoor.Sa
