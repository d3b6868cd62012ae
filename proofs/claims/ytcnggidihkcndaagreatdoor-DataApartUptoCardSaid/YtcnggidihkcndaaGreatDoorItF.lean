/- Contract of package slices' BinarySearchFunc at items, and of package item's place. -/
import Derived.Test.YtcnggidihkcndaaGreatDoorItE
namespace Go.Proofs.YtcnggidihkcndaaGreatDoor.It
set_option linter.unusedVariables false
set_option maxRecDepth 100000
open Go.ChangeShapes Go.WideShapes Go.ChangeAt Go.RowKit
open Ar Rg St
theorem placeCmp_at (x : Itm) (k : ByteArray) (c : Int) (hc : icf x k = c) (w : World) :
    Calls Tryz.prog 46 #[.agg #[.string x.k, .string x.v], .string k] w fun e w' => e = .returned (.int .i64 c) ∧ Below w.heap.size w w' := by
  subst hc
  exact placeCmp_any x k w
theorem icf_lt (x : Itm) (k : ByteArray) : icf x k < 0 ↔ lt (key x) k.data.toList = true := By.cmp_lt _ _
theorem icf_eq (x : Itm) (k : ByteArray) : icf x k = 0 ↔ key x = k.data.toList := By.cmp_eq _ _
theorem found_at {D : List Itm} {k : ByteArray} {p : Nat} {y : Itm} (h : D[p]? = some y) : found D k p = decide (key y = k.data.toList) := by unfold found; rw [h]
theorem found_out {D : List Itm} {k : ByteArray} {p : Nat} (h : D.length ≤ p) : found D k p = false := by unfold found; rw [List.getElem?_eq_none h]
set_option maxRecDepth 100000 in
set_option maxHeartbeats 1000000 in
theorem search_any (D : List Itm) (k : ByteArray) (A : Option Addr) (n cap B : Nat) (hn : n = D.length) (hm : n ≤ 281474976710656) (hs : Srt key lt D) (w : World) (hB : B ≤ w.heap.size) (hD : Ls enc 2 w B A D) :
    Calls Tryz.prog 45 #[.slice A n cap, .string k, .func (.func 46) #[] #[]] w fun e w' => ∃ p : Nat, At D k p ∧ e = .returned (.tuple #[.int .i64 p, .bool (found D k p)]) ∧ Below w.heap.size w w' := by
  have HN := Lib.hid hn
  have HD := Lib.hid hD
  have HS := Lib.hid hs
  clear hn hD hs
  go_enter Tryz.func45, Tryz.ntmps45
  go_wp2_with fail
  go_loopw [9, 10] (fun v u wr => ∃ lo hi : Nat, v = .int .i64 lo ∧ u = .int .i64 hi ∧ Hid (Sc.Bs (GI D k) 0 n lo hi) ∧ Hid (Below w.heap.size w wr)) (fun v u _ => (intOf u).toNat - (intOf v).toNat)
  case atStart => exact ⟨0, n, by go_num, by go_num, Sc.Bs.start _ (Nat.zero_le _), Below.refl _ _⟩
  case round =>
    obtain ⟨lo, hi, rfl, rfl, hbs, hbel⟩ := hrel
    obtain ⟨_, n2, n3, _⟩ := Hid.out hbs
    have hL := HD.out.below ((Hid.out hbel).mono hB)
    by_cases hlt : lo < hi
    · obtain ⟨h, hh⟩ : ∃ h : Nat, ((lo : Int) + (hi : Int)) / 2 = (h : Int) := ⟨(lo + hi) / 2, by omega⟩
      have n4 : lo ≤ h := by omega
      have n5 : h < hi := by omega
      have n6 : (0 : Int) ≤ (h : Int) := by omega
      have n7 : (h : Int) < (n : Int) := by omega
      obtain ⟨z, hz⟩ : ∃ z, D[h]? = some z := ⟨_, List.getElem?_eq_getElem (by rw [← HN.out]; omega)⟩
      obtain ⟨b, o, hAe, hb, hr⟩ := hL h z hz
      have hbl : b < wr.heap.size := Nat.lt_of_lt_of_le hb (Nat.le_trans hB (Hid.out hbel).size)
      have hc0 : wr.cell? ⟨b, o + h * 2, none⟩ = some (.string z.k) := hr 0 _ rfl
      have hc1 : wr.cell? ⟨b, o + h * 2 + 1, none⟩ = some (.string z.v) := hr 1 _ rfl
      clear hL hr
      subst hAe
      obtain ⟨c, hcf⟩ : ∃ c, icf z k = c := ⟨_, rfl⟩
      have hcl := icf_lt z k
      rw [hcf] at hcl
      have HCF := Lib.hid hcf
      by_cases hlk : lt (key z) k.data.toList = true
      · have hc : c < 0 := hcl.2 hlk
        have HUP := Lib.hid ((Hid.out hbs).up n4 n5 (by rw [GI_at hz, hlk]; rfl))
        clear hcl hcf hbs hz hlk
        go_wp2_with (go_at_call 46; refine (placeCmp_at z k c HCF.out _).mono ?_; rintro e w1 ⟨rfl, hb1⟩; have HB1 := Lib.hid ((Hid.out hbel).trans (hb1.mono (Hid.out hbel).size)); clear hb1)
        exact ⟨⟨h + 1, hi, by go_num, rfl, HUP.out, HB1.out⟩, by simp [intOf] <;> omega⟩
      · have hc : 0 ≤ c := by
          have : ¬ c < 0 := fun e => hlk (hcl.1 e)
          omega
        have HDN := Lib.hid ((Hid.out hbs).down n4 n5 (by rw [GI_at hz]; simp only [hlk]; rfl))
        clear hcl hcf hbs hz hlk
        go_wp2_with (go_at_call 46; refine (placeCmp_at z k c HCF.out _).mono ?_; rintro e w1 ⟨rfl, hb1⟩; have HB1 := Lib.hid ((Hid.out hbel).trans (hb1.mono (Hid.out hbel).size)); clear hb1)
        exact ⟨⟨lo, h, rfl, rfl, HDN.out, HB1.out⟩, by simp [intOf] <;> omega⟩
    · obtain rfl : lo = hi := by omega
      have HAT := Lib.hid (at_of HS.out (by have := Hid.out hbs; rw [HN.out] at this; exact this))
      clear hbs
      by_cases hp : lo < n
      · obtain ⟨z, hz⟩ : ∃ z, D[lo]? = some z := ⟨_, List.getElem?_eq_getElem (by rw [← HN.out]; omega)⟩
        obtain ⟨b, o, hAe, hb, hr⟩ := hL lo z hz
        have hbl : b < wr.heap.size := Nat.lt_of_lt_of_le hb (Nat.le_trans hB (Hid.out hbel).size)
        have hc0 : wr.cell? ⟨b, o + lo * 2, none⟩ = some (.string z.k) := hr 0 _ rfl
        have hc1 : wr.cell? ⟨b, o + lo * 2 + 1, none⟩ = some (.string z.v) := hr 1 _ rfl
        clear hL hr
        subst hAe
        obtain ⟨c, hcf⟩ : ∃ c, icf z k = c := ⟨_, rfl⟩
        have hce := icf_eq z k
        rw [hcf] at hce
        have HF := Lib.hid (show found D k lo = (c == 0) by rw [found_at hz, Bool.eq_iff_iff]; simp [hce])
        have HCF := Lib.hid hcf
        clear hcf hce hz
        go_wp2_with (go_at_call 46; refine (placeCmp_at z k c HCF.out _).mono ?_; rintro e w1 ⟨rfl, hb1⟩; have HB1 := Lib.hid ((Hid.out hbel).trans (hb1.mono (Hid.out hbel).size)); clear hb1)
        go_ret2
        exact ⟨lo, HAT.out, by rw [HF.out]; rfl, HB1.out⟩
      · have HF := Lib.hid (found_out (D := D) (k := k) (p := lo) (by rw [← HN.out]; omega))
        clear hL
        go_wp2
        go_ret2
        exact ⟨lo, HAT.out, by rw [HF.out]; rfl, Hid.out hbel⟩
theorem place_any (D : List Itm) (k : ByteArray) (A : Option Addr) (n cap B : Nat) (hn : n = D.length) (hm : n ≤ 281474976710656) (hs : Srt key lt D) (w : World) (hB : B ≤ w.heap.size) (hD : Ls enc 2 w B A D) :
    Calls Tryz.prog 31 #[.slice A n cap, .string k] w fun e w' => ∃ p : Nat, At D k p ∧ e = .returned (.tuple #[.int .i64 p, .bool (found D k p)]) ∧ Below w.heap.size w w' := by
  have HC := Lib.hid (search_any D k A n cap B hn hm hs w hB hD)
  clear hn hs hD
  go_enter Tryz.func31, Tryz.ntmps31
  go_wp2_with (go_at_call 45; refine HC.out.mono ?_; rintro e w1 ⟨p, hp, rfl, hb1⟩; have HP := Lib.hid hp; have HB1 := Lib.hid hb1; clear hp hb1)
  go_ret2
  exact ⟨p, HP.out, rfl, HB1.out⟩
end Go.Proofs.YtcnggidihkcndaaGreatDoor.It
