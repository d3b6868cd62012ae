/- Contracts of the document's Done and Apply. -/
import Derived.Test.YtpchkmjpmlbbgaaItX
namespace Go.Proofs.Ytpchkmjpmlbbgaa.It
set_option linter.unusedVariables false
open Go.ChangeShapes Go.WideShapes Go.ChangeAt Go.RowKit
open Ar Rg St
open BigFrame
/-- what has been put, whether the change has, what is left -/
def AtP (c : Ch) (D : List Itm) (i : Nat) (q : Bool) (O : List Itm) : Prop := O ++ donL c q (D.drop i) = don c D
theorem AtP.le {c : Ch} {D O : List Itm} {i : Nat} {q : Bool} (h : AtP c D i q O) : O.length ≤ D.length + 1 := by
  have h1 := congrArg List.length h
  rw [List.length_append] at h1
  have h2 : (don c D).length ≤ D.length + 1 := don_len c D _
  omega
theorem AtP.step {c : Ch} {D O : List Itm} {i : Nat} {q : Bool} {x : Itm} (h : AtP c D i q O) (hx : D[i]? = some x) : AtP c D (i + 1) (q || !lt (key x) (ckey c)) (O ++ (if !q && !lt (key x) (ckey c) then [itm c] else []) ++ (if key x = ckey c then [] else [x])) := by
  unfold AtP at h ⊢
  rw [← h, drop_at hx, donL]
  simp only [List.append_assoc]
theorem O_ne {a b : List UInt8} (h : lt a b = true) : a ≠ b := O.ne h
theorem MkI_alloc {w wr : World} {v : Value} {D : List Itm} (h : MkI w wr v D) (o : Obj) : MkI w (wr.alloc o) v D := Mk.alloc h o
theorem AtP.done {c : Ch} {D O : List Itm} {i : Nat} {q : Bool} (h : AtP c D i q O) (hi : D.length ≤ i) : O ++ (if q then [] else [itm c]) = don c D := by
  unfold AtP at h
  rw [List.drop_eq_nil_of_le hi, donL] at h
  exact h
set_option linter.unusedSimpArgs false in
set_option maxRecDepth 100000 in
set_option maxHeartbeats 3000000 in
theorem refDone_any (D : List Itm) (z : Ch) (A : Option Addr) (n c B : Nat) (hn : n = D.length) (hlen : n ≤ 2199023255552) (w : World) (hB : B ≤ w.heap.size) (hD : Ls enc 2 w B A D) :
    Calls Try.prog 34 #[.slice A n c, .agg #[.string z.k, .bool z.h, .string z.v]] w fun e w' => ∃ v, e = .returned v ∧ MkI w w' v (don z D) := by
  have HN := Lib.hid hn
  have hd0 : (w.alloc (.cells #[.string z.k, .bool z.h, .string z.v] 39)).cell? ⟨w.heap.size, 0, none⟩ = some (.string z.k) := by simp
  have hd1 : (w.alloc (.cells #[.string z.k, .bool z.h, .string z.v] 39)).cell? ⟨w.heap.size, 1, none⟩ = some (.bool z.h) := by simp
  have hd2 : (w.alloc (.cells #[.string z.k, .bool z.h, .string z.v] 39)).cell? ⟨w.heap.size, 2, none⟩ = some (.string z.v) := by simp
  have HW := Lib.hid (show Below w.heap.size w (w.alloc (.cells #[.string z.k, .bool z.h, .string z.v] 39)) from (Below.refl _ _).alloc (Nat.le_refl _) _)
  have hsz : w.heap.size < (w.alloc (.cells #[.string z.k, .bool z.h, .string z.v] 39)).heap.size := by simp
  have HD := Lib.hid (hD.below (HW.out.mono hB))
  have hB0 : B ≤ (w.alloc (.cells #[.string z.k, .bool z.h, .string z.v] 39)).heap.size := by omega
  clear hn hD
  go_enter Try.func34, Try.ntmps34
  go_wp2_with fail
  generalize w.alloc _ = W0 at *
  go_loopw [5, 6, 14] (fun ov qv v wr => ∃ (i : Nat) (q : Bool) (O : List Itm), i ≤ n ∧ v = .int .i64 i ∧ qv = .bool q ∧ Hid (AtP z D i q O) ∧ Hid (MkI W0 wr ov O)) (fun _ _ v _ => n - (intOf v).toNat)
  case atStart => exact ⟨0, !z.h, [], Nat.zero_le _, by go_num, rfl, rfl, Mk.nil (Below.refl _ _)⟩
  case round =>
    obtain ⟨i, q, O, hi, rfl, rfl, hat, hm⟩ := hrel
    have hb0 : wr.cell? ⟨w.heap.size, 0, none⟩ = some (.string z.k) := ((Hid.out hm).2.cell (p := ⟨w.heap.size, 0, none⟩) hsz).trans hd0
    have hb1 : wr.cell? ⟨w.heap.size, 1, none⟩ = some (.bool z.h) := ((Hid.out hm).2.cell (p := ⟨w.heap.size, 1, none⟩) hsz).trans hd1
    have hb2 : wr.cell? ⟨w.heap.size, 2, none⟩ = some (.string z.v) := ((Hid.out hm).2.cell (p := ⟨w.heap.size, 2, none⟩) hsz).trans hd2
    have hwr : w.heap.size < wr.heap.size := Nat.lt_of_lt_of_le hsz (Hid.out hm).2.size
    have hol : O.length ≤ 2199023255553 := by have h1 := (Hid.out hat).le; have h2 := HN.out; omega
    by_cases hlt : i < n
    · obtain ⟨x, hx⟩ : ∃ x, D[i]? = some x := ⟨_, List.getElem?_eq_getElem (by rw [← HN.out]; exact hlt)⟩
      obtain ⟨b, o, hAe, hb, hr⟩ := (HD.out.below ((Hid.out hm).2.mono hB0)) i x hx
      have hbs : b < wr.heap.size := Nat.lt_of_lt_of_le hb (Nat.le_trans hB0 (Hid.out hm).2.size)
      have hc0 : wr.cell? ⟨b, o + i * 2, none⟩ = some (.string x.k) := hr 0 _ rfl
      have hc1 : wr.cell? ⟨b, o + i * 2 + 1, none⟩ = some (.string x.v) := hr 1 _ rfl
      clear hr
      subst hAe
      have HM := Lib.hid (show MkI W0 (wr.alloc (.cells #[.string x.k, .string x.v] 43)) _ O from (Hid.out hm).alloc _)
      have hst := (Hid.out hat).step hx
      have hs := (Hid.out hm).2.size
      have hx0 : (wr.alloc (.cells #[.string x.k, .string x.v] 43)).cell? ⟨wr.heap.size, 0, none⟩ = some (.string x.k) := by simp
      have hx1 : (wr.alloc (.cells #[.string x.k, .string x.v] 43)).cell? ⟨wr.heap.size, 1, none⟩ = some (.string x.v) := by simp
      have ha0 : (wr.alloc (.cells #[.string x.k, .string x.v] 43)).cell? ⟨w.heap.size, 0, none⟩ = some (.string z.k) := by rw [World.cell?_alloc_lt _ _ _ hwr]; exact hb0
      have ha1 : (wr.alloc (.cells #[.string x.k, .string x.v] 43)).cell? ⟨w.heap.size, 1, none⟩ = some (.bool z.h) := by rw [World.cell?_alloc_lt _ _ _ hwr]; exact hb1
      have ha2 : (wr.alloc (.cells #[.string x.k, .string x.v] 43)).cell? ⟨w.heap.size, 2, none⟩ = some (.string z.v) := by rw [World.cell?_alloc_lt _ _ _ hwr]; exact hb2
      have hMR := hm
      clear hat hx
      cases hq : q
      · by_cases hl : lt (key x) (ckey z) = true
        · have hbl := bl_of hl
          by_cases hk : key x = ckey z
          · exact absurd hk (O_ne hl)
          · have he : (x.k.toList == z.k.toList) = false := by rw [str_eq]; exact decide_eq_false hk
            rw [if_neg hk] at hst
            simp only [hq, hl, Bool.not_true, Bool.not_false, Bool.true_or, Bool.false_or, Bool.or_true, Bool.or_false, Bool.and_true, Bool.and_false, Bool.false_eq_true, if_true, if_false, List.append_nil] at hst
            have HST := Lib.hid hst
            clear hst hk
            go_wp2_with (at_builtin; refine catI (HM.out.alloc _) [x] (some ⟨wr.heap.size + 1, 0, none⟩) 1 1 rfl (ls_new_at _ (x) _ (by simp)) (by omega) rfl _ _ rfl rfl rfl ?_; intro v3 w3 hM hG; have Hv3 := Lib.hid hM; clear hM hG)
            exact ⟨⟨i + 1, false, O ++ [x], by omega, by go_num, rfl, HST.out, Hv3.out⟩, by simp [intOf] <;> omega⟩
        · have hl : lt (key x) (ckey z) = false := by simpa using hl
          have hbl := bl_of hl
          by_cases hk : key x = ckey z
          · have he : (x.k.toList == z.k.toList) = true := by rw [str_eq]; exact decide_eq_true hk
            rw [if_pos hk] at hst
            simp only [hq, hl, Bool.not_true, Bool.not_false, Bool.true_or, Bool.false_or, Bool.or_true, Bool.or_false, Bool.and_true, Bool.and_false, Bool.false_eq_true, if_true, if_false, List.append_nil] at hst
            have HST := Lib.hid hst
            clear hst hk
            go_wp2_with (at_builtin; refine catI (HM.out.alloc _) [itm z] (some ⟨wr.heap.size + 1, 0, none⟩) 1 1 rfl (ls_new_at _ (itm z) _ (by simp)) (by omega) rfl _ _ rfl rfl rfl ?_; intro v3 w3 hM hG; have Hv3 := Lib.hid hM; have hy0 := (Hid.out hMR).keep hG (Nat.le_refl _) (show (World.alloc _ _).cell? ⟨wr.heap.size, 0, none⟩ = some (.string x.k) from by rw [World.cell?_alloc_lt _ _ _ (by simp)]; exact hx0); have hy1 := (Hid.out hMR).keep hG (Nat.le_refl _) (show (World.alloc _ _).cell? ⟨wr.heap.size, 1, none⟩ = some (.string x.v) from by rw [World.cell?_alloc_lt _ _ _ (by simp)]; exact hx1); have hz0 : w3.cell? ⟨w.heap.size, 0, none⟩ = some (.string z.k) := (hM.2.cell (p := ⟨w.heap.size, 0, none⟩) hsz).trans hd0; clear hM hG)
            exact ⟨⟨i + 1, true, O ++ [itm z], by omega, by go_num, rfl, HST.out, Hv3.out⟩, by simp [intOf] <;> omega⟩
          · have he : (x.k.toList == z.k.toList) = false := by rw [str_eq]; exact decide_eq_false hk
            rw [if_neg hk] at hst
            simp only [hq, hl, Bool.not_true, Bool.not_false, Bool.true_or, Bool.false_or, Bool.or_true, Bool.or_false, Bool.and_true, Bool.and_false, Bool.false_eq_true, if_true, if_false, List.append_nil] at hst
            have HST := Lib.hid hst
            clear hst hk
            go_wp2_with (first | (at_builtin; refine catI (Hv3.out.alloc _) [x] _ 1 1 rfl (Ls.new _ (x) _ _ (Nat.lt_succ_self _)) (by simp only [List.length_append, List.length_singleton]; omega) rfl _ _ rfl rfl rfl ?_; intro v4 w4 hM hG; have Hv4 := Lib.hid hM; clear hM hG) | (at_builtin; refine catI (HM.out.alloc _) [itm z] (some ⟨wr.heap.size + 1, 0, none⟩) 1 1 rfl (ls_new_at _ (itm z) _ (by simp)) (by omega) rfl _ _ rfl rfl rfl ?_; intro v3 w3 hM hG; have Hv3 := Lib.hid hM; have hy0 := (Hid.out hMR).keep hG (Nat.le_refl _) (show (World.alloc _ _).cell? ⟨wr.heap.size, 0, none⟩ = some (.string x.k) from by rw [World.cell?_alloc_lt _ _ _ (by simp)]; exact hx0); have hy1 := (Hid.out hMR).keep hG (Nat.le_refl _) (show (World.alloc _ _).cell? ⟨wr.heap.size, 1, none⟩ = some (.string x.v) from by rw [World.cell?_alloc_lt _ _ _ (by simp)]; exact hx1); have hz0 : w3.cell? ⟨w.heap.size, 0, none⟩ = some (.string z.k) := (hM.2.cell (p := ⟨w.heap.size, 0, none⟩) hsz).trans hd0; clear hM hG))
            exact ⟨⟨i + 1, true, O ++ [itm z] ++ [x], by omega, by go_num, rfl, HST.out, Hv4.out⟩, by simp [intOf] <;> omega⟩
      · by_cases hl : lt (key x) (ckey z) = true
        · have hbl := bl_of hl
          by_cases hk : key x = ckey z
          · exact absurd hk (O_ne hl)
          · have he : (x.k.toList == z.k.toList) = false := by rw [str_eq]; exact decide_eq_false hk
            rw [if_neg hk] at hst
            simp only [hq, hl, Bool.not_true, Bool.not_false, Bool.true_or, Bool.false_or, Bool.or_true, Bool.or_false, Bool.and_true, Bool.and_false, Bool.false_eq_true, if_true, if_false, List.append_nil] at hst
            have HST := Lib.hid hst
            clear hst hk
            go_wp2_with (at_builtin; refine catI (HM.out.alloc _) [x] (some ⟨wr.heap.size + 1, 0, none⟩) 1 1 rfl (ls_new_at _ (x) _ (by simp)) (by omega) rfl _ _ rfl rfl rfl ?_; intro v3 w3 hM hG; have Hv3 := Lib.hid hM; clear hM hG)
            exact ⟨⟨i + 1, true, O ++ [x], by omega, by go_num, rfl, HST.out, Hv3.out⟩, by simp [intOf] <;> omega⟩
        · have hl : lt (key x) (ckey z) = false := by simpa using hl
          have hbl := bl_of hl
          by_cases hk : key x = ckey z
          · have he : (x.k.toList == z.k.toList) = true := by rw [str_eq]; exact decide_eq_true hk
            rw [if_pos hk] at hst
            simp only [hq, hl, Bool.not_true, Bool.not_false, Bool.true_or, Bool.false_or, Bool.or_true, Bool.or_false, Bool.and_true, Bool.and_false, Bool.false_eq_true, if_true, if_false, List.append_nil] at hst
            have HST := Lib.hid hst
            clear hst hk
            go_wp2
            exact ⟨⟨i + 1, true, O, by omega, by go_num, rfl, HST.out, HM.out⟩, by simp [intOf] <;> omega⟩
          · have he : (x.k.toList == z.k.toList) = false := by rw [str_eq]; exact decide_eq_false hk
            rw [if_neg hk] at hst
            simp only [hq, hl, Bool.not_true, Bool.not_false, Bool.true_or, Bool.false_or, Bool.or_true, Bool.or_false, Bool.and_true, Bool.and_false, Bool.false_eq_true, if_true, if_false, List.append_nil] at hst
            have HST := Lib.hid hst
            clear hst hk
            go_wp2_with (at_builtin; refine catI (HM.out.alloc _) [x] (some ⟨wr.heap.size + 1, 0, none⟩) 1 1 rfl (ls_new_at _ (x) _ (by simp)) (by omega) rfl _ _ rfl rfl rfl ?_; intro v3 w3 hM hG; have Hv3 := Lib.hid hM; clear hM hG)
            exact ⟨⟨i + 1, true, O ++ [x], by omega, by go_num, rfl, HST.out, Hv3.out⟩, by simp [intOf] <;> omega⟩
    · have HO := Lib.hid ((Hid.out hat).done (by rw [← HN.out]; omega))
      have HM := Lib.hid ((Hid.out hm).since HW.out)
      have hm2 := hm
      clear hat hm
      cases hq : q
      · rw [hq] at HO
        go_wp2_with (at_builtin; refine catI (MkI_alloc (HM.out) _) [itm z] _ 1 1 rfl (Ls.new _ (itm z) _ _ (Nat.lt_succ_self _)) (by omega) rfl _ _ rfl rfl rfl ?_; intro v3 w3 hM3 hG3; have HM3 := Lib.hid hM3; clear hM3 hG3)
        go_ret
        exact ⟨_, rfl, by rw [← HO.out]; exact HM3.out⟩
      · rw [hq] at HO
        go_wp2
        go_ret
        exact ⟨_, rfl, by have := HO.out; rw [if_pos trivial, List.append_nil] at this; rw [← this]; exact HM.out⟩
theorem mk_made {w w1 : World} (h : Below w.heap.size w w1) : MkI w (w1.alloc (.cells #[] 43)) (.slice (some ⟨w1.heap.size, 0, none⟩) 0 0) [] :=
  ⟨World.ownsRow_made _ #[] 0 h.size (Nat.zero_le _) (by simp), h.alloc h.size _⟩
set_option maxRecDepth 100000 in
set_option maxHeartbeats 2000000 in
theorem refApply_any (D : List Itm) (C : List Ch) (A A' : Option Addr) (n c m c' B B' : Nat) (hn : n = D.length) (hm : m = C.length) (hlen : n ≤ 1099511627776) (hlen' : m ≤ 1099511627776) (w : World) (hB : B ≤ w.heap.size) (hB' : B' ≤ w.heap.size) (hX : Ls enc 2 w B A D) (hY : Ls Sc.enc 3 w B' A' C) :
    Calls Try.prog 21 #[.slice A n c, .slice A' m c'] w fun e w' => ∃ v, e = .returned (.tuple #[v, .int .i64 (er (rt D && rc C))]) ∧ MkI w w' v (if rt D && rc C then app D C else []) := by
  have HX := Lib.hid hX
  have HY := Lib.hid hY
  have HN := Lib.hid hn
  have HN' := Lib.hid hm
  have HC := Lib.hid (refCheck_any D A n c B hn (by omega) w hB hX)
  have ef : errF false = .int .i64 4 := rfl
  have et : errF true = .int .i64 0 := rfl
  clear hn hm hX hY
  cases hx : rt D
  · rw [hx, ef] at HC
    clear hx ef et
    go_enter Try.func21, Try.ntmps21
    go_wp2_with (go_at_call 19; refine HC.out.mono ?_; rintro e w1 ⟨rfl, hb1⟩; have HB1 := Lib.hid hb1; clear hb1)
    go_ret2
    exact ⟨_, rfl, Mk.nil HB1.out⟩
  · have HR := Lib.hid hx
    rw [hx, et] at HC
    clear hx
    cases hy : rc C
    · go_enter Try.func21, Try.ntmps21
      go_wp2_with fail
      go_at_call 19
      refine HC.out.mono ?_
      rintro e w1 ⟨rfl, hb1⟩
      have HB1 := Lib.hid hb1
      clear hb1 HC
      go_wp2_with fail
      go_at_call 33
      refine (refChanges_any C A' m c' B' HN'.out (by omega) w1 (Nat.le_trans hB' HB1.out.size) (HY.out.below (HB1.out.mono hB'))).mono ?_
      rw [hy, ef]
      rintro e w2 ⟨rfl, hb2⟩
      have HB2 := Lib.hid (HB1.out.trans (hb2.mono HB1.out.size))
      clear hb2 HB1 hy
      go_wp2
      go_ret2
      exact ⟨_, rfl, Mk.nil HB2.out⟩
    · go_enter Try.func21, Try.ntmps21
      go_wp2_with fail
      go_at_call 19
      refine HC.out.mono ?_
      rintro e w1 ⟨rfl, hb1⟩
      have HB1 := Lib.hid hb1
      clear hb1 HC
      go_wp2_with fail
      go_at_call 33
      refine (refChanges_any C A' m c' B' HN'.out (by omega) w1 (Nat.le_trans hB' HB1.out.size) (HY.out.below (HB1.out.mono hB'))).mono ?_
      rw [hy, et]
      rintro e w2 ⟨rfl, hb2⟩
      have HB2 := Lib.hid (HB1.out.trans (hb2.mono HB1.out.size))
      clear hb2 HB1 hy
      go_wp2_with (at_builtin; refine catI (mk_made HB2.out) D A n c HN.out (HX.out.below ((mk_made HB2.out).2.mono hB)) (by simp; omega) rfl _ _ rfl rfl rfl ?_; intro v3 w3 hM3 hG3; have HM3 := Lib.hid hM3; clear hM3 hG3)
      have HM3' := Lib.hid (show MkI w w3 v3 D from HM3.out)
      obtain ⟨A3, n3, c3, hv, hs3⟩ := SlI.of_mk HM3'.out
      have HS3 := Lib.hid hs3
      clear HM3 hs3
      subst hv
      go_loopw [6, 22] (fun ov v wr => ∃ (i : Nat) (A : Option Addr) (n c : Nat) (O : List Itm), i ≤ m ∧ v = .int .i64 i ∧ ov = .slice A n c ∧ Hid (app O (C.drop i) = app D C ∧ SlI wr A n c O ∧ O.length ≤ D.length + i) ∧ Hid (MkI w wr (.slice A n c) O)) (fun _ v _ => m - (intOf v).toNat)
      case atStart => exact ⟨0, A3, n3, c3, D, Nat.zero_le _, by go_num, rfl, ⟨rfl, HS3.out, Nat.le_refl _⟩, HM3'.out⟩
      case round =>
        clear HS3 HM3'
        obtain ⟨i, A3, n3, c3, O, hi, rfl, rfl, hst, hmk⟩ := hrel
        by_cases hlt : i < m
        · obtain ⟨x, hx⟩ : ∃ x, C[i]? = some x := ⟨_, List.getElem?_eq_getElem (by rw [← HN'.out]; exact hlt)⟩
          obtain ⟨b, o, hAe, hb, hr⟩ := (HY.out.below ((Hid.out hmk).2.mono hB')) i x hx
          have hc0 : wr.cell? ⟨b, o + i * 3, none⟩ = some (.string x.k) := hr 0 _ rfl
          have hc1 : wr.cell? ⟨b, o + i * 3 + 1, none⟩ = some (.bool x.h) := hr 1 _ rfl
          have hc2 : wr.cell? ⟨b, o + i * 3 + 2, none⟩ = some (.string x.v) := hr 2 _ rfl
          clear hr
          subst hAe
          have HB := Lib.hid (show Below w.heap.size w (wr.alloc (.cells #[.string x.k, .bool x.h, .string x.v] 39)) from (Hid.out hmk).2.alloc (Hid.out hmk).2.size _)
          have HS := Lib.hid (show SlI (wr.alloc (.cells #[.string x.k, .bool x.h, .string x.v] 39)) A3 n3 c3 O from (Hid.out hst).2.1.below ((Below.refl _ _).alloc (Nat.le_refl _) _))
          have hn3 : n3 ≤ 2199023255552 := by have h1 := HS.out.1; have h2 := (Hid.out hst).2.2; have h3 := HN.out; omega
          have HAP := Lib.hid (show app (don x O) (C.drop (i + 1)) = app D C by
            have := (Hid.out hst).1
            rw [drop_atC hx] at this
            exact this)
          have HOL := Lib.hid (show (don x O).length ≤ D.length + (i + 1) by have h1 := (Hid.out hst).2.2; have h2 : (don x O).length ≤ O.length + 1 := don_len x O _; omega)
          clear hx hst hmk
          go_wp2_with fail
          go_at_call 34
          obtain ⟨s1, s2, s3, B3, s4, s5⟩ := HS.out
          refine (refDone_any O x A3 n3 c3 B3 s1 hn3 _ s4 s5).mono ?_
          rintro e w4 ⟨v4, rfl, hM4⟩
          have hM4' := hM4.since HB.out
          obtain ⟨A4, n4, c4, hv, hs4⟩ := SlI.of_mk hM4'
          have HM4 := Lib.hid hM4'
          have HS4 := Lib.hid hs4
          clear hM4 hM4' hs4 s1 s2 s3 s4 s5 HS HB hc0 hc1 hc2
          subst hv
          go_wp2
          exact ⟨⟨i + 1, A4, n4, c4, don x O, by omega, by go_num, rfl, ⟨HAP.out, HS4.out, HOL.out⟩, HM4.out⟩, by simp [intOf] <;> omega⟩
        · have HO := Lib.hid (show O = app D C by
            have := (Hid.out hst).1
            rw [List.drop_eq_nil_of_le (by rw [← HN'.out]; omega)] at this
            exact this)
          clear hst
          go_wp2
          go_ret2
          exact ⟨_, rfl, by rw [← HO.out]; exact Hid.out hmk⟩
end Go.Proofs.Ytpchkmjpmlbbgaa.It
