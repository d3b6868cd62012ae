/- Contracts of the document's Diff and SameChanges. -/
import Derived.Test.YtpchkmjpmlbbgaaItY
namespace Go.Proofs.Ytpchkmjpmlbbgaa.It
set_option linter.unusedVariables false
open Go.ChangeShapes Go.WideShapes Go.ChangeAt Go.RowKit
open Ar Rg St
open BigFrame
theorem keep_blk {w W w3 : World} {v : Value} {D : List Ch} {g : Nat} {cs : Array Value} {o : Obj} (h : MkC w W v D) (hG : (W.alloc o).grownBy w3 v.ownBlock) (hb : W.heap[g]? = some (.cells cs 43 (0, 0))) : w3.heap[g]? = some (.cells cs 43 (0, 0)) := by
  have hlt : g < W.heap.size := by
    rcases Nat.lt_or_ge g W.heap.size with h1 | h1
    · exact h1
    · rw [Array.getElem?_eq_none h1] at hb; cases hb
  have h1 : (W.alloc o).heap[g]? = some (.cells cs 43 (0, 0)) := (Below.heap_alloc W o g hlt).trans hb
  refine (hG.block g (by simp; omega) ?_).trans h1
  intro e1
  rcases h.1.2 with ⟨rfl, _⟩ | ⟨g', cap, cur, rfl, _, hg, _⟩
  · cases e1
  · have e2 : g = g' := by simpa [Value.ownBlock] using e1
    subst e2
    rw [hb] at hg
    injection hg with hg
    injection hg with _ ht
    exact absurd ht (by decide)
theorem AtD.rest {A B : List Itm} {i j : Nat} {O : List Ch} (h : AtD A B i j O) : O.length ≤ i + j := h.2
set_option maxRecDepth 100000 in
set_option maxHeartbeats 4000000 in
theorem refDiff_any (X Y : List Itm) (A A' : Option Addr) (n c m c' B B' : Nat) (hn : n = X.length) (hm : m = Y.length) (hlen : n ≤ 1099511627776) (hlen' : m ≤ 1099511627776) (w : World) (hB : B ≤ w.heap.size) (hB' : B' ≤ w.heap.size) (hX : Ls enc 2 w B A X) (hY : Ls enc 2 w B' A' Y) :
    Calls Try.prog 23 #[.slice A n c, .slice A' m c'] w fun e w' => ∃ v, e = .returned (.tuple #[v, .int .i64 (er (rt X && rt Y))]) ∧ MkC w w' v (if rt X && rt Y then dif X Y else []) := by
  have HX := Lib.hid hX
  have HY := Lib.hid hY
  have HN := Lib.hid hn
  have HN' := Lib.hid hm
  have HC := Lib.hid (refCheck_any X A n c B hn (by omega) w hB hX)
  have ef : errF false = .int .i64 4 := rfl
  have et : errF true = .int .i64 0 := rfl
  clear hn hm hX hY
  cases hx : rt X
  · rw [hx, ef] at HC
    clear hx ef et
    go_enter Try.func23, Try.ntmps23
    go_wp2_with (go_at_call 19; refine HC.out.mono ?_; rintro e w1 ⟨rfl, hb1⟩; have HB1 := Lib.hid hb1; clear hb1)
    go_ret2
    exact ⟨_, rfl, Mk.nil HB1.out⟩
  · have HR := Lib.hid hx
    rw [hx, et] at HC
    clear hx
    cases hy : rt Y
    · go_enter Try.func23, Try.ntmps23
      go_wp2_with fail
      go_at_call 19
      refine HC.out.mono ?_
      rintro e w1 ⟨rfl, hb1⟩
      have HB1 := Lib.hid hb1
      clear hb1 HC
      go_wp2_with fail
      go_at_call 19
      refine (refCheck_any Y A' m c' B' HN'.out (by omega) w1 (Nat.le_trans hB' HB1.out.size) (HY.out.below (HB1.out.mono hB'))).mono ?_
      rw [hy, ef]
      rintro e w2 ⟨rfl, hb2⟩
      have HB2 := Lib.hid (HB1.out.trans (hb2.mono HB1.out.size))
      clear hb2 HB1 hy
      go_wp2
      go_ret2
      exact ⟨_, rfl, Mk.nil HB2.out⟩
    · go_enter Try.func23, Try.ntmps23
      go_wp2_with fail
      go_at_call 19
      refine HC.out.mono ?_
      rintro e w1 ⟨rfl, hb1⟩
      have HB1 := Lib.hid hb1
      clear hb1 HC
      go_wp2_with fail
      go_at_call 19
      refine (refCheck_any Y A' m c' B' HN'.out (by omega) w1 (Nat.le_trans hB' HB1.out.size) (HY.out.below (HB1.out.mono hB'))).mono ?_
      rw [hy, et]
      rintro e w2 ⟨rfl, hb2⟩
      have HB2 := Lib.hid (HB1.out.trans (hb2.mono HB1.out.size))
      clear hb2 HB1 hy et ef
      go_wp2_with fail
      go_loopw [6, 7, 20] (fun ov iv jv wr => ∃ (i j : Nat) (O : List Ch), i ≤ n ∧ j ≤ m ∧ iv = .int .i64 i ∧ jv = .int .i64 j ∧ Hid (AtD X Y i j O) ∧ Hid (MkC w wr ov O)) (fun _ _ jv _ => m - (intOf jv).toNat)
      case atStart => exact ⟨0, 0, [], Nat.zero_le _, Nat.zero_le _, by go_num, by go_num, ⟨rfl, Nat.le_refl _⟩, Mk.nil HB2.out⟩
      case round =>
        obtain ⟨i, j, O, hi, hj, rfl, rfl, hat, hmk⟩ := hrel
        by_cases hjm : j < m
        · obtain ⟨b2, hb2⟩ : ∃ b2, Y[j]? = some b2 := ⟨_, List.getElem?_eq_getElem (by rw [← HN'.out]; exact hjm)⟩
          obtain ⟨b', o', hAe, hb', hr⟩ := (HY.out.below ((Hid.out hmk).2.mono hB')) j b2 hb2
          have hb0 : wr.cell? ⟨b', o' + j * 2, none⟩ = some (.string b2.k) := hr 0 _ rfl
          have hb1 : wr.cell? ⟨b', o' + j * 2 + 1, none⟩ = some (.string b2.v) := hr 1 _ rfl
          clear hr
          subst hAe
          have hbw := (Hid.out hmk).2
          have hol0 := (Hid.out hat).rest
          obtain ⟨wo, rfl⟩ : ∃ wo, wo = wr := ⟨_, rfl⟩
          have HM0 := Lib.hid (show MkC w (wo.alloc (.cells #[.string b2.k, .string b2.v] 43)) _ O from (Hid.out hmk).alloc _)
          have HK0 := Lib.hid (show (wo.alloc (.cells #[.string b2.k, .string b2.v] 43)).heap[wo.heap.size]? = some (.cells #[.string b2.k, .string b2.v] 43 (0, 0)) from heap_alloc_new wo _)
          have HYJ := Lib.hid hb2
          clear hb2 hmk
          go_wp2_with fail
          clear hb0 hb1
          go_loopw [6, 7] (fun ov iv wr => ∃ (i : Nat) (O : List Ch), i ≤ n ∧ iv = .int .i64 i ∧ Hid (AtD X Y i j O) ∧ Hid (MkC w wr ov O) ∧ Hid (wr.heap[wo.heap.size]? = some (.cells #[.string b2.k, .string b2.v] 43 (0, 0)))) (fun _ iv _ => n - (intOf iv).toNat)
          case atStart => exact ⟨i, O, hi, rfl, hat, HM0.out, HK0.out⟩
          case round =>
            clear HM0 HK0 hat hol0
            obtain ⟨i, O, hi, rfl, hat, HM, HK⟩ := hrel
            have hol := (Hid.out hat).rest
            have hx0 : wr.cell? ⟨wo.heap.size, 0, none⟩ = some (.string b2.k) := by rw [cell_of_row _ _ _ _ _ _ (Hid.out HK)]; rfl
            have hx1 : wr.cell? ⟨wo.heap.size, 1, none⟩ = some (.string b2.v) := by rw [cell_of_row _ _ _ _ _ _ (Hid.out HK)]; rfl
            by_cases hin : i < n
            · have q2 : decide ((i : Int) < (n : Int)) = true := by rw [decide_eq_true_iff]; omega
              obtain ⟨a, ha⟩ : ∃ a, X[i]? = some a := ⟨_, List.getElem?_eq_getElem (by rw [← HN.out]; exact hin)⟩
              obtain ⟨b, o, hAe, hb, hr⟩ := (HX.out.below ((Hid.out HM).2.mono hB)) i a ha
              have ha0 : wr.cell? ⟨b, o + i * 2, none⟩ = some (.string a.k) := hr 0 _ rfl
              have ha1 : wr.cell? ⟨b, o + i * 2 + 1, none⟩ = some (.string a.v) := hr 1 _ rfl
              clear hr
              subst hAe
              by_cases h1 : lt (key a) (key b2) = true
              · have HAT := Lib.hid ((Hid.out hat).ahead ha HYJ.out h1)
                have q4 := bl_of h1
                clear h1 hat ha
                go_wp2_with fail
                go_big_quiet (fail)
                have HM2 := Lib.hid ((Hid.out HM).drewN nq)
                have HK2 := Lib.hid (show (wr.drewN nq).heap[wo.heap.size]? = some (.cells #[.string b2.k, .string b2.v] 43 (0, 0)) from Hid.out HK)
                clear HM HK
                have ha0' : (wr.drewN nq).cell? ⟨b, o + i * 2, none⟩ = some (.string a.k) := ha0
                clear ha0
                have ha0 := ha0'
                clear ha0'
                have ha1' : (wr.drewN nq).cell? ⟨b, o + i * 2 + 1, none⟩ = some (.string a.v) := ha1
                clear ha1
                have ha1 := ha1'
                clear ha1'
                have hx0' : (wr.drewN nq).cell? ⟨wo.heap.size, 0, none⟩ = some (.string b2.k) := hx0
                clear hx0
                have hx0 := hx0'
                clear hx0'
                have hx1' : (wr.drewN nq).cell? ⟨wo.heap.size, 1, none⟩ = some (.string b2.v) := hx1
                clear hx1
                have hx1 := hx1'
                clear hx1'
                generalize World.drewN wr nq = W2 at *
                go_wp2_with (at_builtin; refine catC (HM2.out.alloc _) [gone a] _ 1 1 rfl (Ls.new _ (gone a) _ _ (Nat.lt_succ_self _)) (by omega) rfl _ _ rfl rfl rfl ?_; intro v3 w3 hM3 hG3; have HM3 := Lib.hid hM3; have HK3 := Lib.hid (keep_blk HM2.out hG3 HK2.out); clear hM3 hG3)
                exact ⟨⟨i + 1, O ++ [gone a], by omega, by go_num, HAT.out, HM3.out, HK3.out⟩, by simp [intOf] <;> omega⟩
              · have h1 : lt (key a) (key b2) = false := by simpa using h1
                have q4 := bl_of h1
                by_cases hk : key a = key b2
                · have q6 : (a.k.toList == b2.k.toList) = true := by rw [str_eq]; exact decide_eq_true hk
                  by_cases hv : a.v.data.toList = b2.v.data.toList
                  · have q7 : (a.v.toList == b2.v.toList) = true := by rw [str_eq]; exact decide_eq_true hv
                    have HAT := Lib.hid ((Hid.out hat).same ha HYJ.out hk hv)
                    clear h1 hk hv hat ha
                    go_wp2_with fail
                    go_big_quiet (fail)
                    have HM2 := Lib.hid ((Hid.out HM).drewN nq)
                    have HK2 := Lib.hid (show (wr.drewN nq).heap[wo.heap.size]? = some (.cells #[.string b2.k, .string b2.v] 43 (0, 0)) from Hid.out HK)
                    clear HM HK
                    have ha0' : (wr.drewN nq).cell? ⟨b, o + i * 2, none⟩ = some (.string a.k) := ha0
                    clear ha0
                    have ha0 := ha0'
                    clear ha0'
                    have ha1' : (wr.drewN nq).cell? ⟨b, o + i * 2 + 1, none⟩ = some (.string a.v) := ha1
                    clear ha1
                    have ha1 := ha1'
                    clear ha1'
                    have hx0' : (wr.drewN nq).cell? ⟨wo.heap.size, 0, none⟩ = some (.string b2.k) := hx0
                    clear hx0
                    have hx0 := hx0'
                    clear hx0'
                    have hx1' : (wr.drewN nq).cell? ⟨wo.heap.size, 1, none⟩ = some (.string b2.v) := hx1
                    clear hx1
                    have hx1 := hx1'
                    clear hx1'
                    generalize World.drewN wr nq = W2 at *
                    go_wp2_with fail
                    go_big_quiet (fail)
                    have HM3 := Lib.hid ((Hid.out HM2).drewN nq)
                    have HK3 := Lib.hid (show (W2.drewN nq).heap[wo.heap.size]? = some (.cells #[.string b2.k, .string b2.v] 43 (0, 0)) from Hid.out HK2)
                    clear HM2 HK2
                    have ha0' : (W2.drewN nq).cell? ⟨b, o + i * 2, none⟩ = some (.string a.k) := ha0
                    clear ha0
                    have ha0 := ha0'
                    clear ha0'
                    have ha1' : (W2.drewN nq).cell? ⟨b, o + i * 2 + 1, none⟩ = some (.string a.v) := ha1
                    clear ha1
                    have ha1 := ha1'
                    clear ha1'
                    have hx0' : (W2.drewN nq).cell? ⟨wo.heap.size, 0, none⟩ = some (.string b2.k) := hx0
                    clear hx0
                    have hx0 := hx0'
                    clear hx0'
                    have hx1' : (W2.drewN nq).cell? ⟨wo.heap.size, 1, none⟩ = some (.string b2.v) := hx1
                    clear hx1
                    have hx1 := hx1'
                    clear hx1'
                    generalize World.drewN W2 nq = W3 at *
                    go_wp2_with fail
                    go_big_quiet (fail)
                    have HM4 := Lib.hid ((Hid.out HM3).drewN nq)
                    have HK4 := Lib.hid (show (W3.drewN nq).heap[wo.heap.size]? = some (.cells #[.string b2.k, .string b2.v] 43 (0, 0)) from Hid.out HK3)
                    clear HM3 HK3
                    have ha0' : (W3.drewN nq).cell? ⟨b, o + i * 2, none⟩ = some (.string a.k) := ha0
                    clear ha0
                    have ha0 := ha0'
                    clear ha0'
                    have ha1' : (W3.drewN nq).cell? ⟨b, o + i * 2 + 1, none⟩ = some (.string a.v) := ha1
                    clear ha1
                    have ha1 := ha1'
                    clear ha1'
                    have hx0' : (W3.drewN nq).cell? ⟨wo.heap.size, 0, none⟩ = some (.string b2.k) := hx0
                    clear hx0
                    have hx0 := hx0'
                    clear hx0'
                    have hx1' : (W3.drewN nq).cell? ⟨wo.heap.size, 1, none⟩ = some (.string b2.v) := hx1
                    clear hx1
                    have hx1 := hx1'
                    clear hx1'
                    generalize World.drewN W3 nq = W4 at *
                    go_wp2_with fail
                    exact ⟨⟨i + 1, j + 1, O, by omega, by omega, by go_num, by go_num, HAT.out, HM4.out⟩, by simp [intOf] <;> omega⟩
                  · have q7 : (a.v.toList == b2.v.toList) = false := by rw [str_eq]; exact decide_eq_false hv
                    have HAT := Lib.hid ((Hid.out hat).other ha HYJ.out hk hv)
                    clear h1 hk hv hat ha
                    go_wp2_with fail
                    go_big_quiet (fail)
                    have HM2 := Lib.hid ((Hid.out HM).drewN nq)
                    have HK2 := Lib.hid (show (wr.drewN nq).heap[wo.heap.size]? = some (.cells #[.string b2.k, .string b2.v] 43 (0, 0)) from Hid.out HK)
                    clear HM HK
                    have ha0' : (wr.drewN nq).cell? ⟨b, o + i * 2, none⟩ = some (.string a.k) := ha0
                    clear ha0
                    have ha0 := ha0'
                    clear ha0'
                    have ha1' : (wr.drewN nq).cell? ⟨b, o + i * 2 + 1, none⟩ = some (.string a.v) := ha1
                    clear ha1
                    have ha1 := ha1'
                    clear ha1'
                    have hx0' : (wr.drewN nq).cell? ⟨wo.heap.size, 0, none⟩ = some (.string b2.k) := hx0
                    clear hx0
                    have hx0 := hx0'
                    clear hx0'
                    have hx1' : (wr.drewN nq).cell? ⟨wo.heap.size, 1, none⟩ = some (.string b2.v) := hx1
                    clear hx1
                    have hx1 := hx1'
                    clear hx1'
                    generalize World.drewN wr nq = W2 at *
                    go_wp2_with fail
                    go_big_quiet (fail)
                    have HM3 := Lib.hid ((Hid.out HM2).drewN nq)
                    have HK3 := Lib.hid (show (W2.drewN nq).heap[wo.heap.size]? = some (.cells #[.string b2.k, .string b2.v] 43 (0, 0)) from Hid.out HK2)
                    clear HM2 HK2
                    have ha0' : (W2.drewN nq).cell? ⟨b, o + i * 2, none⟩ = some (.string a.k) := ha0
                    clear ha0
                    have ha0 := ha0'
                    clear ha0'
                    have ha1' : (W2.drewN nq).cell? ⟨b, o + i * 2 + 1, none⟩ = some (.string a.v) := ha1
                    clear ha1
                    have ha1 := ha1'
                    clear ha1'
                    have hx0' : (W2.drewN nq).cell? ⟨wo.heap.size, 0, none⟩ = some (.string b2.k) := hx0
                    clear hx0
                    have hx0 := hx0'
                    clear hx0'
                    have hx1' : (W2.drewN nq).cell? ⟨wo.heap.size, 1, none⟩ = some (.string b2.v) := hx1
                    clear hx1
                    have hx1 := hx1'
                    clear hx1'
                    generalize World.drewN W2 nq = W3 at *
                    go_wp2_with fail
                    go_big_quiet (fail)
                    have HM4 := Lib.hid ((Hid.out HM3).drewN nq)
                    have HK4 := Lib.hid (show (W3.drewN nq).heap[wo.heap.size]? = some (.cells #[.string b2.k, .string b2.v] 43 (0, 0)) from Hid.out HK3)
                    clear HM3 HK3
                    have ha0' : (W3.drewN nq).cell? ⟨b, o + i * 2, none⟩ = some (.string a.k) := ha0
                    clear ha0
                    have ha0 := ha0'
                    clear ha0'
                    have ha1' : (W3.drewN nq).cell? ⟨b, o + i * 2 + 1, none⟩ = some (.string a.v) := ha1
                    clear ha1
                    have ha1 := ha1'
                    clear ha1'
                    have hx0' : (W3.drewN nq).cell? ⟨wo.heap.size, 0, none⟩ = some (.string b2.k) := hx0
                    clear hx0
                    have hx0 := hx0'
                    clear hx0'
                    have hx1' : (W3.drewN nq).cell? ⟨wo.heap.size, 1, none⟩ = some (.string b2.v) := hx1
                    clear hx1
                    have hx1 := hx1'
                    clear hx1'
                    generalize World.drewN W3 nq = W4 at *
                    go_wp2_with (at_builtin; refine catC (HM4.out.alloc _) [there b2] _ 1 1 rfl (Ls.new _ (there b2) _ _ (Nat.lt_succ_self _)) (by omega) rfl _ _ rfl rfl rfl ?_; intro v5 w5 hM5 hG5; have HM5 := Lib.hid hM5; clear hM5 hG5)
                    exact ⟨⟨i + 1, j + 1, O ++ [there b2], by omega, by omega, by go_num, by go_num, HAT.out, HM5.out⟩, by simp [intOf] <;> omega⟩
                · have q6 : (a.k.toList == b2.k.toList) = false := by rw [str_eq]; exact decide_eq_false hk
                  have HAT := Lib.hid ((Hid.out hat).behind ha HYJ.out (le_ne h1 hk))
                  clear h1 hk hat ha
                  go_wp2_with fail
                  go_big_quiet (fail)
                  have HM2 := Lib.hid ((Hid.out HM).drewN nq)
                  have HK2 := Lib.hid (show (wr.drewN nq).heap[wo.heap.size]? = some (.cells #[.string b2.k, .string b2.v] 43 (0, 0)) from Hid.out HK)
                  clear HM HK
                  have ha0' : (wr.drewN nq).cell? ⟨b, o + i * 2, none⟩ = some (.string a.k) := ha0
                  clear ha0
                  have ha0 := ha0'
                  clear ha0'
                  have ha1' : (wr.drewN nq).cell? ⟨b, o + i * 2 + 1, none⟩ = some (.string a.v) := ha1
                  clear ha1
                  have ha1 := ha1'
                  clear ha1'
                  have hx0' : (wr.drewN nq).cell? ⟨wo.heap.size, 0, none⟩ = some (.string b2.k) := hx0
                  clear hx0
                  have hx0 := hx0'
                  clear hx0'
                  have hx1' : (wr.drewN nq).cell? ⟨wo.heap.size, 1, none⟩ = some (.string b2.v) := hx1
                  clear hx1
                  have hx1 := hx1'
                  clear hx1'
                  generalize World.drewN wr nq = W2 at *
                  go_wp2_with fail
                  go_big_quiet (fail)
                  have HM3 := Lib.hid ((Hid.out HM2).drewN nq)
                  have HK3 := Lib.hid (show (W2.drewN nq).heap[wo.heap.size]? = some (.cells #[.string b2.k, .string b2.v] 43 (0, 0)) from Hid.out HK2)
                  clear HM2 HK2
                  have ha0' : (W2.drewN nq).cell? ⟨b, o + i * 2, none⟩ = some (.string a.k) := ha0
                  clear ha0
                  have ha0 := ha0'
                  clear ha0'
                  have ha1' : (W2.drewN nq).cell? ⟨b, o + i * 2 + 1, none⟩ = some (.string a.v) := ha1
                  clear ha1
                  have ha1 := ha1'
                  clear ha1'
                  have hx0' : (W2.drewN nq).cell? ⟨wo.heap.size, 0, none⟩ = some (.string b2.k) := hx0
                  clear hx0
                  have hx0 := hx0'
                  clear hx0'
                  have hx1' : (W2.drewN nq).cell? ⟨wo.heap.size, 1, none⟩ = some (.string b2.v) := hx1
                  clear hx1
                  have hx1 := hx1'
                  clear hx1'
                  generalize World.drewN W2 nq = W3 at *
                  go_wp2_with (at_builtin; refine catC (HM3.out.alloc _) [there b2] _ 1 1 rfl (Ls.new _ (there b2) _ _ (Nat.lt_succ_self _)) (by omega) rfl _ _ rfl rfl rfl ?_; intro v5 w5 hM5 hG5; have HM5 := Lib.hid hM5; clear hM5 hG5)
                  exact ⟨⟨i, j + 1, O ++ [there b2], by omega, by omega, rfl, by go_num, HAT.out, HM5.out⟩, by simp [intOf] <;> omega⟩
            · have q2 : decide ((i : Int) < (n : Int)) = false := by rw [decide_eq_false_iff_not]; omega
              have q3 : decide (i < n) = false := by rw [decide_eq_false_iff_not]; omega
              have HAT := Lib.hid ((Hid.out hat).right (by rw [← HN.out]; omega) HYJ.out)
              clear hat
              go_wp2_with fail
              go_big_quiet (fail)
              have HM2 := Lib.hid ((Hid.out HM).drewN nq)
              have HK2 := Lib.hid (show (wr.drewN nq).heap[wo.heap.size]? = some (.cells #[.string b2.k, .string b2.v] 43 (0, 0)) from Hid.out HK)
              clear HM HK
              have hx0' : (wr.drewN nq).cell? ⟨wo.heap.size, 0, none⟩ = some (.string b2.k) := hx0
              clear hx0
              have hx0 := hx0'
              clear hx0'
              have hx1' : (wr.drewN nq).cell? ⟨wo.heap.size, 1, none⟩ = some (.string b2.v) := hx1
              clear hx1
              have hx1 := hx1'
              clear hx1'
              generalize World.drewN wr nq = W2 at *
              go_wp2_with fail
              go_big_quiet (fail)
              have HM3 := Lib.hid ((Hid.out HM2).drewN nq)
              have HK3 := Lib.hid (show (W2.drewN nq).heap[wo.heap.size]? = some (.cells #[.string b2.k, .string b2.v] 43 (0, 0)) from Hid.out HK2)
              clear HM2 HK2
              have hx0' : (W2.drewN nq).cell? ⟨wo.heap.size, 0, none⟩ = some (.string b2.k) := hx0
              clear hx0
              have hx0 := hx0'
              clear hx0'
              have hx1' : (W2.drewN nq).cell? ⟨wo.heap.size, 1, none⟩ = some (.string b2.v) := hx1
              clear hx1
              have hx1 := hx1'
              clear hx1'
              generalize World.drewN W2 nq = W3 at *
              go_wp2_with (at_builtin; refine catC (HM3.out.alloc _) [there b2] _ 1 1 rfl (Ls.new _ (there b2) _ _ (Nat.lt_succ_self _)) (by omega) rfl _ _ rfl rfl rfl ?_; intro v5 w5 hM5 hG5; have HM5 := Lib.hid hM5; clear hM5 hG5)
              exact ⟨⟨i, j + 1, O ++ [there b2], by omega, by omega, rfl, by go_num, HAT.out, HM5.out⟩, by simp [intOf] <;> omega⟩
        · have hol0 := (Hid.out hat).rest
          have HJ := Lib.hid (show Y.length ≤ j by rw [← HN'.out]; omega)
          go_wp2_with fail
          obtain ⟨wo, hwo⟩ : ∃ wo, wo = wr := ⟨_, rfl⟩
          go_loopw [6, 7] (fun ov iv wr => ∃ (i : Nat) (O : List Ch), i ≤ n ∧ iv = .int .i64 i ∧ Hid (AtD X Y i j O) ∧ Hid (MkC w wr ov O)) (fun _ iv _ => n - (intOf iv).toNat)
          case atStart => exact ⟨i, O, hi, rfl, hat, hmk⟩
          case round =>
            clear hat hmk hwo hol0
            obtain ⟨i, O, hi, rfl, hat, HM⟩ := hrel
            have hol := (Hid.out hat).rest
            by_cases hin : i < n
            · obtain ⟨a, ha⟩ : ∃ a, X[i]? = some a := ⟨_, List.getElem?_eq_getElem (by rw [← HN.out]; exact hin)⟩
              obtain ⟨b, o, hAe, hb, hr⟩ := (HX.out.below ((Hid.out HM).2.mono hB)) i a ha
              have ha0 : wr.cell? ⟨b, o + i * 2, none⟩ = some (.string a.k) := hr 0 _ rfl
              clear hr
              subst hAe
              have HAT := Lib.hid ((Hid.out hat).left ha HJ.out)
              clear hat ha
              go_wp2_with (at_builtin; refine catC ((Hid.out HM).alloc _) [gone a] _ 1 1 rfl (Ls.new _ (gone a) _ _ (Nat.lt_succ_self _)) (by omega) rfl _ _ rfl rfl rfl ?_; intro v3 w3 hM3 hG3; have HM3 := Lib.hid hM3; clear hM3 hG3)
              exact ⟨⟨i + 1, O ++ [gone a], by omega, by go_num, HAT.out, HM3.out⟩, by simp [intOf] <;> omega⟩
            · have HO := Lib.hid ((Hid.out hat).done (by rw [← HN.out]; omega) HJ.out)
              clear hat
              go_wp2
              go_ret2
              exact ⟨_, rfl, by rw [← HO.out]; exact Hid.out HM⟩
end Go.Proofs.Ytpchkmjpmlbbgaa.It
