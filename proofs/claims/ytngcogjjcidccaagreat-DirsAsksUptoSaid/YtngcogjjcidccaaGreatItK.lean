/- Contract of the document's Check. -/
import Derived.Test.YtngcogjjcidccaaGreatItJ
namespace Go.Proofs.YtngcogjjcidccaaGreat.It
set_option linter.unusedVariables false
open Go.ChangeShapes Go.WideShapes Go.ChangeAt Go.RowKit
open Ar Rg St
open BigFrame
set_option maxRecDepth 100000 in
set_option maxHeartbeats 1000000 in
theorem refCheck_any (D : List Itm) (A : Option Addr) (n cap B : Nat) (hn : n = D.length) (hm : n ≤ 281474976710656) (w : World) (hB : B ≤ w.heap.size) (hD : Ls enc 2 w B A D) :
    Calls Tryz.prog 28 #[.slice A n cap] w fun e w' => e = .returned (errF (rt D)) ∧ Below w.heap.size w w' := by
  have HN := Lib.hid hn
  have HD := Lib.hid hD
  clear hn hD
  go_enter Tryz.func28, Tryz.ntmps28
  go_wp2_with fail
  go_loopw [7] (fun v wr => ∃ i : Nat, i ≤ n ∧ v = .int .i64 i ∧ Hid (RtAt D i) ∧ Hid (Below w.heap.size w wr)) (fun v _ => n - (intOf v).toNat)
  case atStart => exact ⟨0, Nat.zero_le _, by go_num, RtAt.zero D, Below.refl _ _⟩
  case round =>
    obtain ⟨i, hi, rfl, hrt, hbel⟩ := hrel
    by_cases hlt : i < n
    · obtain ⟨x, hx⟩ : ∃ x, D[i]? = some x := ⟨_, List.getElem?_eq_getElem (by rw [← HN.out]; exact hlt)⟩
      have hL := HD.out.below ((Hid.out hbel).mono hB)
      obtain ⟨b, o, hAe, hb, hr⟩ := hL i x hx
      have hbs : b < wr.heap.size := Nat.lt_of_lt_of_le hb (Nat.le_trans hB (Hid.out hbel).size)
      have hc0 : wr.cell? ⟨b, o + i * 2, none⟩ = some (.string x.k) := hr 0 _ rfl
      have hc1 : wr.cell? ⟨b, o + i * 2 + 1, none⟩ = some (.string x.v) := hr 1 _ rfl
      have HL := Lib.hid hL
      clear hL hr
      subst hAe
      have HBN := Lib.hid (show Below w.heap.size w (wr.alloc (.cells #[.string x.k, .string x.v] 72)) from (Hid.out hbel).alloc (Hid.out hbel).size _)
      have hcx : (wr.alloc (.cells #[.string x.k, .string x.v] 72)).cell? ⟨wr.heap.size, 0, none⟩ = some (.string x.k) := by simp
      have hcv : (wr.alloc (.cells #[.string x.k, .string x.v] 72)).cell? ⟨wr.heap.size, 1, none⟩ = some (.string x.v) := by simp
      have hqc := refKey_at x.k
      go_wp2_with fail
      by_cases hok : okI x = true
      · have hq1 : okKey x.k = true := by simp [okI] at hok; exact hok.1
        have hv : x.v.size ≤ 160 := by simp [okI] at hok; exact hok.2
        have hv1 : decide ((160 : Int) < (x.v.size : Int)) = false := by rw [decide_eq_false_iff_not]; omega
        rw [hq1] at hqc
        have HQC := Lib.hid hqc
        clear hqc hq1 hv
        by_cases hi0 : i = 0
        · subst hi0
          have HRT := Lib.hid ((Hid.out hrt).first hx hok)
          clear hrt hx hi hok
          generalize wr.alloc _ = W1 at *
          go_big_quiet ((go_at_call 43; exact Calls.quiet_of_same (HQC.out _)))
          have HB2 := Lib.hid (below_drewN HBN.out nq)
          clear HBN hbel
          generalize World.drewN _ _ = W2 at *
          go_wp2
          exact ⟨⟨1, by omega, by go_num, HRT.out, HB2.out⟩, by simp [intOf] <;> omega⟩
        · obtain ⟨k, hk⟩ : ∃ k, i = k + 1 := ⟨i - 1, by omega⟩
          have hk1 : (i : Int) - 1 = (k : Int) := by omega
          have hk2 : decide ((0 : Int) < (i : Int)) = true := by rw [decide_eq_true_iff]; omega
          have hk3 : (k : Int) < (n : Int) := by omega
          obtain ⟨y, hy⟩ : ∃ y, D[k]? = some y := ⟨_, List.getElem?_eq_getElem (by rw [← HN.out]; omega)⟩
          obtain ⟨b2, o2, hAe, hb2, hr⟩ := HL.out k y hy
          cases hAe
          have hcy : (wr.alloc (.cells #[.string x.k, .string x.v] 72)).cell? ⟨b, o + k * 2, none⟩ = some (.string y.k) := by
            rw [World.cell?_alloc_lt _ _ _ hbs]
            exact hr 0 _ rfl
          subst hk
          clear hr
          by_cases hl : By.bl (key y) (key x) = true
          · have hl1 : Op.bytesLess y.k.toList x.k.toList = true := by rw [ByteArray.toList_eq, ByteArray.toList_eq]; exact hl
            have HRT := Lib.hid ((Hid.out hrt).more hy hx hok hl)
            clear hrt hx hy hl hok
            generalize wr.alloc _ = W1 at *
            go_big_quiet ((go_at_call 43; exact Calls.quiet_of_same (HQC.out _)))
            have HB2 := Lib.hid (below_drewN HBN.out nq)
            clear HBN hbel
            generalize World.drewN _ _ = W2 at *
            go_wp2
            exact ⟨⟨k + 2, by omega, by go_num, HRT.out, HB2.out⟩, by simp [intOf] <;> omega⟩
          · have hl0 : By.bl (key y) (key x) = false := by simpa using hl
            have hl1 : Op.bytesLess y.k.toList x.k.toList = false := by rw [ByteArray.toList_eq, ByteArray.toList_eq]; exact hl0
            have HRT := Lib.hid ((Hid.out hrt).down hy hx hl0)
            clear hrt hx hy hl hl0 hok
            generalize wr.alloc _ = W1 at *
            go_big_quiet ((go_at_call 43; exact Calls.quiet_of_same (HQC.out _)))
            have HB2 := Lib.hid (below_drewN HBN.out nq)
            clear HBN hbel
            generalize World.drewN _ _ = W2 at *
            go_wp2
            go_ret
            exact ⟨by rw [HRT.out]; rfl, HB2.out⟩
      · have hok1 : okI x = false := by simpa using hok
        have HF := Lib.hid ((Hid.out hrt).bad hx hok1)
        by_cases hq1 : okKey x.k = true
        · have hv : ¬ x.v.size ≤ 160 := by
            intro h
            rw [okI, hq1, decide_eq_true h] at hok1
            cases hok1
          have hv1 : decide ((160 : Int) < (x.v.size : Int)) = true := by rw [decide_eq_true_iff]; omega
          rw [hq1] at hqc
          have HQC := Lib.hid hqc
          clear hqc hq1 hv hok hok1 hrt hx
          generalize wr.alloc _ = W1 at *
          go_big_quiet ((go_at_call 43; exact Calls.quiet_of_same (HQC.out _)))
          have HB2 := Lib.hid (below_drewN HBN.out nq)
          clear HBN hbel
          generalize World.drewN _ _ = W2 at *
          go_wp2
          go_ret
          exact ⟨by rw [HF.out]; rfl, HB2.out⟩
        · have hq1 : okKey x.k = false := by simpa using hq1
          rw [hq1] at hqc
          have HQC := Lib.hid hqc
          clear hqc hq1 hok hok1 hrt hx
          generalize wr.alloc _ = W1 at *
          go_big_quiet ((go_at_call 43; exact Calls.quiet_of_same (HQC.out _)))
          have HB2 := Lib.hid (below_drewN HBN.out nq)
          clear HBN hbel
          generalize World.drewN _ _ = W2 at *
          go_wp2
          go_ret
          exact ⟨by rw [HF.out]; rfl, HB2.out⟩
    · have HF := Lib.hid ((Hid.out hrt).last (by rw [← HN.out]; omega))
      go_wp2
      go_ret
      exact ⟨by rw [HF.out]; rfl, Hid.out hbel⟩
end Go.Proofs.YtngcogjjcidccaaGreat.It
