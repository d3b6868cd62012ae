/- Contract of the document's SameChanges; the walks of the laws ItemAsks and ItemChanges. -/
import Derived.Test.YtpchkmjpmlbbgaaItZ
import Derived.Test.YtpchkmjpmlbbgaaItWE
namespace Go.Proofs.Ytpchkmjpmlbbgaa.It
set_option linter.unusedVariables false
open Go.ChangeShapes Go.WideShapes Go.ChangeAt Go.RowKit
open Ar Rg St
open BigFrame
def eqC (a b : Ch) : Bool := decide (ckey a = ckey b) && (decide (a.h = b.h) && decide (a.v.data.toList = b.v.data.toList))
theorem ch_ext {a b : Ch} (h : ckey a = ckey b) (hh : a.h = b.h) (hv : a.v.data.toList = b.v.data.toList) : a = b := by
  obtain ⟨ak, ah, av⟩ := a
  obtain ⟨bk, bh, bv⟩ := b
  have h1 : ak = bk := ByteArray.ext (Array.toList_inj.1 h)
  have h2 : av = bv := ByteArray.ext (Array.toList_inj.1 hv)
  have h3 : ah = bh := hh
  rw [h1, h2, h3]
theorem eqC_iff {a b : Ch} : eqC a b = true ↔ a = b := by
  unfold eqC
  rw [Bool.and_eq_true, Bool.and_eq_true, decide_eq_true_iff, decide_eq_true_iff, decide_eq_true_iff]
  exact ⟨fun h => ch_ext h.1 h.2.1 h.2.2, fun h => by subst h; exact ⟨rfl, rfl, rfl⟩⟩
def smC : List Ch → List Ch → Bool
  | [], [] => true
  | a :: A, b :: B => eqC a b && smC A B
  | _, _ => false
theorem smC_iff : ∀ {A B : List Ch}, smC A B = true ↔ A = B
  | [], [] => by simp [smC]
  | [], _ :: _ => by simp [smC]
  | _ :: _, [] => by simp [smC]
  | a :: A, b :: B => by
    rw [smC, Bool.and_eq_true, eqC_iff, smC_iff, List.cons.injEq]
theorem smC_no {A B : List Ch} (h : A ≠ B) : smC A B = false := by
  rw [Bool.eq_false_iff]; exact fun e => h (smC_iff.1 e)
set_option maxRecDepth 100000 in
set_option maxHeartbeats 1000000 in
theorem sameC_any (D E : List Ch) (A A' : Option Addr) (n c n' c' B B' : Nat) (hn : n = D.length) (hn' : n' = E.length) (hm : n ≤ 281474976710656) (w : World) (hB : B ≤ w.heap.size) (hB' : B' ≤ w.heap.size) (hD : Ls Sc.enc 3 w B A D) (hE : Ls Sc.enc 3 w B' A' E) :
    Calls Try.prog 24 #[.slice A n c, .slice A' n' c'] w fun e w' => e = .returned (.bool (smC D E)) ∧ Below w.heap.size w w' := by
  have HN := Lib.hid hn
  have HN' := Lib.hid hn'
  have HD := Lib.hid hD
  have HE := Lib.hid hE
  clear hn hn' hD hE
  by_cases hl : n = n'
  · subst hl
    go_enter Try.func24, Try.ntmps24
    go_wp2_with fail
    go_loopw [13] (fun v wr => ∃ i : Nat, i ≤ n ∧ v = .int .i64 i ∧ Hid (D.take i = E.take i) ∧ Hid (Below w.heap.size w wr)) (fun v _ => n - (intOf v).toNat)
    case atStart => exact ⟨0, Nat.zero_le _, by go_num, rfl, Below.refl _ _⟩
    case round =>
      obtain ⟨i, hi, rfl, htk, hbel⟩ := hrel
      by_cases hlt : i < n
      · obtain ⟨x, hx⟩ : ∃ x, D[i]? = some x := ⟨_, List.getElem?_eq_getElem (by rw [← HN.out]; exact hlt)⟩
        obtain ⟨y, hy⟩ : ∃ y, E[i]? = some y := ⟨_, List.getElem?_eq_getElem (by rw [← HN'.out]; exact hlt)⟩
        obtain ⟨b, o, hAe, hb, hr⟩ := (HD.out.below ((Hid.out hbel).mono hB)) i x hx
        obtain ⟨b', o', hAe', hb', hr'⟩ := (HE.out.below ((Hid.out hbel).mono hB')) i y hy
        have hc0 : wr.cell? ⟨b, o + i * 3, none⟩ = some (.string x.k) := hr 0 _ rfl
        have hc1 : wr.cell? ⟨b, o + i * 3 + 1, none⟩ = some (.bool x.h) := hr 1 _ rfl
        have hc2 : wr.cell? ⟨b, o + i * 3 + 2, none⟩ = some (.string x.v) := hr 2 _ rfl
        have hd0 : wr.cell? ⟨b', o' + i * 3, none⟩ = some (.string y.k) := hr' 0 _ rfl
        have hd1 : wr.cell? ⟨b', o' + i * 3 + 1, none⟩ = some (.bool y.h) := hr' 1 _ rfl
        have hd2 : wr.cell? ⟨b', o' + i * 3 + 2, none⟩ = some (.string y.v) := hr' 2 _ rfl
        clear hr hr'
        subst hAe hAe'
        by_cases hk : ckey x = ckey y
        · have he0 : (x.k.toList == y.k.toList) = true := by rw [str_eq]; exact decide_eq_true hk
          by_cases hh : x.h = y.h
          · have he2 : (x.h == y.h) = true := by rw [beq_iff_eq]; exact hh
            by_cases hv : x.v.data.toList = y.v.data.toList
            · have he1 : (x.v.toList == y.v.toList) = true := by rw [str_eq]; exact decide_eq_true hv
              have HT := Lib.hid (take_more (Hid.out htk) hx ((ch_ext hk hh hv) ▸ hy))
              clear htk hx hy hk hv hh
              go_wp2_with fail
              go_big_quiet (fail)
              have HB2 := Lib.hid (below_drewN (Hid.out hbel) nq)
              clear hbel
              generalize World.drewN _ _ = W2 at *
              go_wp2
              exact ⟨⟨i + 1, by omega, by go_num, HT.out, HB2.out⟩, by simp [intOf] <;> omega⟩
            · have he1 : (x.v.toList == y.v.toList) = false := by rw [str_eq]; exact decide_eq_false hv
              have HF := Lib.hid (smC_no (A := D) (B := E) fun e => hv (by rw [e, hy] at hx; cases hx; rfl))
              clear htk hx hy hk hv hh
              go_wp2_with fail
              go_big_quiet (fail)
              have HB2 := Lib.hid (below_drewN (Hid.out hbel) nq)
              clear hbel
              generalize World.drewN _ _ = W2 at *
              go_wp2
              go_ret
              exact ⟨by rw [HF.out]; rfl, HB2.out⟩
          · have he2 : (x.h == y.h) = false := by rw [beq_eq_false_iff_ne]; exact hh
            have HF := Lib.hid (smC_no (A := D) (B := E) fun e => hh (by rw [e, hy] at hx; cases hx; rfl))
            clear htk hx hy hk hh
            go_wp2_with fail
            go_big_quiet (fail)
            have HB2 := Lib.hid (below_drewN (Hid.out hbel) nq)
            clear hbel
            generalize World.drewN _ _ = W2 at *
            go_wp2
            go_ret
            exact ⟨by rw [HF.out]; rfl, HB2.out⟩
        · have he0 : (x.k.toList == y.k.toList) = false := by rw [str_eq]; exact decide_eq_false hk
          have HF := Lib.hid (smC_no (A := D) (B := E) fun e => hk (by rw [e, hy] at hx; cases hx; rfl))
          clear htk hx hy hk
          go_wp2_with fail
          go_big_quiet (fail)
          have HB2 := Lib.hid (below_drewN (Hid.out hbel) nq)
          clear hbel
          generalize World.drewN _ _ = W2 at *
          go_wp2
          go_ret
          exact ⟨by rw [HF.out]; rfl, HB2.out⟩
      · have HT := Lib.hid (show smC D E = true from smC_iff.2 (by
          have h := Hid.out htk
          rwa [List.take_of_length_le (by rw [← HN.out]; omega), List.take_of_length_le (by rw [← HN'.out]; omega)] at h))
        go_wp2
        go_ret
        exact ⟨by rw [HT.out]; rfl, Hid.out hbel⟩
  · have hne : ((n : Int) != (n' : Int)) = true := by rw [bne_iff_ne]; omega
    have HF := Lib.hid (smC_no (A := D) (B := E) fun e => hl (by rw [HN.out, HN'.out, e]))
    go_enter Try.func24, Try.ntmps24
    go_wp2
    go_ret
    exact ⟨by rw [HF.out]; rfl, Below.refl _ _⟩
def gs (q : Bool) (o : Option ByteArray) : ByteArray := if q then was o else { data := #[] }
def ge (q : Bool) (o : Option ByteArray) : Int := if q then no o else 4
theorem getV_any (q : Bool) (o : Option ByteArray) : getV q o = .tuple #[.string (gs q o), .int .i64 (ge q o)] := by cases q <;> cases o <;> rfl
theorem errF_er (q : Bool) : errF q = .int .i64 (er q) := by cases q <;> rfl
section
variable {w : World} {A A' : Option Addr} {n c m c' : Nat} {X Y : List Itm} {C E : List Ch}
theorem refDiffS (h1 : SlI w A n c X) (h2 : SlI w A' m c' Y) (hl : n ≤ 1099511627776) (hl' : m ≤ 1099511627776) :
    Calls Try.prog 23 #[.slice A n c, .slice A' m c'] w fun e w' => ∃ (A2 : Option Addr) (n2 c2 : Nat), e = .returned (.tuple #[.slice A2 n2 c2, .int .i64 (er (rt X && rt Y))]) ∧ SlC w' A2 n2 c2 (if rt X && rt Y then dif X Y else []) ∧ Below w.heap.size w w' := by
  obtain ⟨a1, a2, a3, B, hB, hL⟩ := h1
  obtain ⟨b1, b2, b3, B', hB', hL'⟩ := h2
  refine (refDiff_any X Y A A' n c m c' B B' a1 b1 hl hl' w hB hB' hL hL').mono fun e w' h => ?_
  obtain ⟨v, he, hM⟩ := h
  obtain ⟨A2, n2, c2, hv, hS⟩ := SlC.of_mk hM
  exact ⟨A2, n2, c2, by rw [he, hv], hS, hM.2⟩
theorem refApplyS (h1 : SlI w A n c X) (h2 : SlC w A' m c' C) (hl : n ≤ 1099511627776) (hl' : m ≤ 1099511627776) :
    Calls Try.prog 21 #[.slice A n c, .slice A' m c'] w fun e w' => ∃ (A2 : Option Addr) (n2 c2 : Nat), e = .returned (.tuple #[.slice A2 n2 c2, .int .i64 (er (rt X && rc C))]) ∧ SlI w' A2 n2 c2 (if rt X && rc C then app X C else []) ∧ Below w.heap.size w w' := by
  obtain ⟨a1, a2, a3, B, hB, hL⟩ := h1
  obtain ⟨b1, b2, b3, B', hB', hL'⟩ := h2
  refine (refApply_any X C A A' n c m c' B B' a1 b1 hl hl' w hB hB' hL hL').mono fun e w' h => ?_
  obtain ⟨v, he, hM⟩ := h
  obtain ⟨A2, n2, c2, hv, hS⟩ := SlI.of_mk hM
  exact ⟨A2, n2, c2, by rw [he, hv], hS, hM.2⟩
theorem refUnderS (h1 : SlI w A n c X) (p : ByteArray) (hp : p.size ≤ 9223372036854775807) (hl : n ≤ 4398046511103) :
    Calls Try.prog 15 #[.slice A n c, .string p] w fun e w' => ∃ (A2 : Option Addr) (n2 c2 : Nat), e = .returned (.tuple #[.slice A2 n2 c2, .int .i64 (er (rt X))]) ∧ SlI w' A2 n2 c2 (if rt X then und X p else []) ∧ Below w.heap.size w w' := by
  obtain ⟨a1, a2, a3, B, hB, hL⟩ := h1
  refine (refUnder_any X p hp A n c B a1 hl w hB hL).mono fun e w' h => ?_
  obtain ⟨v, he, hM⟩ := h
  obtain ⟨A2, n2, c2, hv, hS⟩ := SlI.of_mk hM
  exact ⟨A2, n2, c2, by rw [he, hv], hS, hM.2⟩
theorem refGetS (h1 : SlI w A n c X) (k : ByteArray) (hl : n ≤ 4398046511104) :
    Calls Try.prog 13 #[.slice A n c, .string k] w fun e w' => e = .returned (getV (rt X) (get X k)) ∧ Below w.heap.size w w' := by
  obtain ⟨a1, a2, a3, B, hB, hL⟩ := h1
  exact refGet_any X k A n c B a1 (by omega) w hB hL
theorem refCheckS (h1 : SlI w A n c X) (hl : n ≤ 4398046511104) :
    Calls Try.prog 19 #[.slice A n c] w fun e w' => e = .returned (errF (rt X)) ∧ Below w.heap.size w w' := by
  obtain ⟨a1, a2, a3, B, hB, hL⟩ := h1
  exact refCheck_any X A n c B a1 (by omega) w hB hL
theorem sameCS (h1 : SlC w A n c C) (h2 : SlC w A' m c' E) (hl : n ≤ 4398046511104) :
    Calls Try.prog 24 #[.slice A n c, .slice A' m c'] w fun e w' => e = .returned (.bool (smC C E)) ∧ Below w.heap.size w w' := by
  obtain ⟨a1, a2, a3, B, hB, hL⟩ := h1
  obtain ⟨b1, b2, b3, B', hB', hL'⟩ := h2
  exact sameC_any C E A A' n c m c' B B' a1 b1 (by omega) w hB hB' hL hL'
end
set_option maxRecDepth 100000 in
set_option maxHeartbeats 2000000 in
theorem itemAsks_walk (w : World) (D : List Itm) (A : Option Addr) (n c : Nat) (k : ByteArray) (hl : n ≤ 4398046511103) (hD : SlI w A n c D) (hk : k.size ≤ maxLen) :
    Calls Try.prog 3 #[.slice A n c, .string k] w fun e w' => e = .returned (.bool true) ∧ Below w.heap.size w w' := by
  unfold maxLen at hk
  have HB0 := Lib.hid (Below.refl w.heap.size w)
  have HD := Lib.hid hD
  have HN := Lib.hid hD.1
  obtain ⟨q, hq⟩ : ∃ q, rt D = q := ⟨_, rfl⟩
  have HQ := Lib.hid hq
  clear hD hq
  go_enter Try.func3, Try.ntmps3
  go_wp2_with fail
  go_at_call 12
  refine (getS (HD.out.below HB0.out) k (by omega)).mono ?_
  rw [getV_any]
  rintro e w1 ⟨rfl, hb1⟩
  have HB1 := Lib.hid (HB0.out.trans (hb1.mono HB0.out.size))
  clear hb1
  go_wp2_with fail
  go_at_call 13
  refine (refGetS (HD.out.below HB1.out) k (by omega)).mono ?_
  rw [getV_any]
  rintro e w2 ⟨rfl, hb2⟩
  have HB2 := Lib.hid (HB1.out.trans (hb2.mono HB1.out.size))
  clear hb2
  go_wp2_with fail
  go_at_call 14
  refine (underS (HD.out.below HB2.out) k (by omega) (by omega)).mono ?_
  rw [HQ.out]
  rintro e w3 ⟨A3, n3, c3, he, hs3, hb3⟩
  have he' : e = .returned (.tuple #[.slice A3 n3 c3, .int .i64 (er q)]) := he
  subst he'
  have HS3 := Lib.hid (show SlI w3 A3 n3 c3 (if q then und D k else []) from hs3)
  have HB3 := Lib.hid (HB2.out.trans (hb3.mono HB2.out.size))
  clear hb3 hs3 he
  go_wp2_with fail
  go_at_call 15
  refine (refUnderS (HD.out.below HB3.out) k (by omega) (by omega)).mono ?_
  rw [HQ.out]
  rintro e w4 ⟨A4, n4, c4, he, hs4, hb4⟩
  have he' : e = .returned (.tuple #[.slice A4 n4 c4, .int .i64 (er q)]) := he
  subst he'
  have HS4 := Lib.hid (show SlI w4 A4 n4 c4 (if q then und D k else []) from hs4)
  have HB4 := Lib.hid (HB3.out.trans (hb4.mono HB3.out.size))
  have HS3' := Lib.hid (HS3.out.below hb4)
  clear hb4 hs4 he HS3
  have hn3 : n3 ≤ n := by
    have h1 := HS3'.out.1
    have h2 := und_len D k
    have h3 := HN.out
    cases q <;> simp at h1 <;> omega
  go_wp2_with fail
  go_at_call 16
  refine (lives_true _).mono ?_
  rintro e w5 ⟨rfl, hb5⟩
  have HB5 := Lib.hid (HB4.out.trans (hb5.mono HB4.out.size))
  have HS3 := Lib.hid (HS3'.out.below hb5)
  have HS4' := Lib.hid (HS4.out.below hb5)
  clear hb5
  go_wp2_with fail
  go_at_call 17
  refine (sameS HS3.out HS4'.out (by omega)).mono ?_
  rw [sm_iff.2 rfl]
  rintro e w6 ⟨rfl, hb6⟩
  have HB6 := Lib.hid (HB5.out.trans (hb6.mono HB5.out.size))
  clear hb6
  go_wp2_with fail
  go_at_call 18
  refine (checkS (HD.out.below HB6.out) (by omega)).mono ?_
  rw [errF_er]
  rintro e w7 ⟨rfl, hb7⟩
  have HB7 := Lib.hid (HB6.out.trans (hb7.mono HB6.out.size))
  clear hb7
  go_wp2_with fail
  go_at_call 19
  refine (refCheckS (HD.out.below HB7.out) (by omega)).mono ?_
  rw [errF_er]
  rintro e w8 ⟨rfl, hb8⟩
  have HB8 := Lib.hid (HB7.out.trans (hb8.mono HB7.out.size))
  clear hb8
  go_wp2
  go_ret
  exact ⟨rfl, HB8.out⟩
set_option maxRecDepth 100000 in
set_option maxHeartbeats 2000000 in
theorem itemChanges_walk (w : World) (D : List Itm) (A : Option Addr) (n c : Nat) (C : List Ch) (A' : Option Addr) (m c' : Nat) (Y : List Itm) (A'' : Option Addr) (p c'' : Nat) (hl : n ≤ 1048576) (hD : SlI w A n c D) (hl' : m ≤ 1048576) (hC : SlC w A' m c' C) (hl'' : p ≤ 1048576) (hY : SlI w A'' p c'' Y) :
    Calls Try.prog 4 #[.slice A n c, .slice A' m c', .slice A'' p c''] w fun e w' => e = .returned (.bool true) ∧ Below w.heap.size w w' := by
  have HB0 := Lib.hid (Below.refl w.heap.size w)
  have HD := Lib.hid hD
  have HC := Lib.hid hC
  have HY := Lib.hid hY
  obtain ⟨q, hq⟩ : ∃ q, (rt D && rc C) = q := ⟨_, rfl⟩
  obtain ⟨r, hr⟩ : ∃ r, (rt D && rt Y) = r := ⟨_, rfl⟩
  have HQ := Lib.hid hq
  have HR := Lib.hid hr
  have hap : D.length + C.length ≤ 2097152 := by have h1 := hD.1; have h2 := hC.1; omega
  have hdi : D.length + Y.length ≤ 2097152 := by have h1 := hD.1; have h2 := hY.1; omega
  clear hD hC hY hq hr
  go_enter Try.func4, Try.ntmps4
  go_wp2_with fail
  go_at_call 20
  refine (applyS (HD.out.below HB0.out) (HC.out.below HB0.out) (by omega) (by omega)).mono ?_
  rw [HQ.out]
  rintro e w1 ⟨A1, n1, c1, he, hs1, hb1⟩
  have he' : e = .returned (.tuple #[.slice A1 n1 c1, .int .i64 (er q)]) := he
  subst he'
  have HS1 := Lib.hid (show SlI w1 A1 n1 c1 (if q then app D C else []) from hs1)
  have HB1 := Lib.hid (HB0.out.trans (hb1.mono HB0.out.size))
  clear hb1 hs1 he
  go_wp2_with fail
  go_at_call 21
  refine (refApplyS (HD.out.below HB1.out) (HC.out.below HB1.out) (by omega) (by omega)).mono ?_
  rw [HQ.out]
  rintro e w2 ⟨A2, n2, c2, he, hs2, hb2⟩
  have he' : e = .returned (.tuple #[.slice A2 n2 c2, .int .i64 (er q)]) := he
  subst he'
  have HS2 := Lib.hid (show SlI w2 A2 n2 c2 (if q then app D C else []) from hs2)
  have HB2 := Lib.hid (HB1.out.trans (hb2.mono HB1.out.size))
  have HS1a := Lib.hid (HS1.out.below hb2)
  clear hb2 hs2 he
  go_wp2_with fail
  go_at_call 22
  refine (diffS (HD.out.below HB2.out) (HY.out.below HB2.out) (by omega) (by omega)).mono ?_
  rw [HR.out]
  rintro e w3 ⟨A3, n3, c3, he, hs3, hb3⟩
  have he' : e = .returned (.tuple #[.slice A3 n3 c3, .int .i64 (er r)]) := he
  subst he'
  have HS3 := Lib.hid (show SlC w3 A3 n3 c3 (if r then dif D Y else []) from hs3)
  have HB3 := Lib.hid (HB2.out.trans (hb3.mono HB2.out.size))
  have HS1b := Lib.hid (HS1a.out.below hb3)
  have HS2b := Lib.hid (HS2.out.below hb3)
  clear hb3 hs3 he
  go_wp2_with fail
  go_at_call 23
  refine (refDiffS (HD.out.below HB3.out) (HY.out.below HB3.out) (by omega) (by omega)).mono ?_
  rw [HR.out]
  rintro e w4 ⟨A4, n4, c4, he, hs4, hb4⟩
  have he' : e = .returned (.tuple #[.slice A4 n4 c4, .int .i64 (er r)]) := he
  subst he'
  have HS4 := Lib.hid (show SlC w4 A4 n4 c4 (if r then dif D Y else []) from hs4)
  have HB4 := Lib.hid (HB3.out.trans (hb4.mono HB3.out.size))
  have HS1c := Lib.hid (HS1b.out.below hb4)
  have HS2c := Lib.hid (HS2b.out.below hb4)
  have HS3c := Lib.hid (HS3.out.below hb4)
  clear hb4 hs4 he
  have hn1 : n1 ≤ 2097152 := by
    have h1 := HS1.out.1
    have h2 := app_len C D
    cases q <;> simp at h1 <;> omega
  have hn3 : n3 ≤ 2097152 := by
    have h1 := HS3.out.1
    have h2 := dif_len D Y
    cases r <;> simp at h1 <;> omega
  clear HS1 HS1a HS1b HS2 HS2b HS3
  go_wp2_with fail
  go_at_call 16
  refine (lives_true _).mono ?_
  rintro e w5 ⟨rfl, hb5⟩
  have HB5 := Lib.hid (HB4.out.trans (hb5.mono HB4.out.size))
  have HS1d := Lib.hid (HS1c.out.below hb5)
  have HS2d := Lib.hid (HS2c.out.below hb5)
  have HS3d := Lib.hid (HS3c.out.below hb5)
  have HS4d := Lib.hid (HS4.out.below hb5)
  clear hb5
  go_wp2_with fail
  go_at_call 17
  refine (sameS HS1d.out HS2d.out (by omega)).mono ?_
  rw [sm_iff.2 rfl]
  rintro e w6 ⟨rfl, hb6⟩
  have HB6 := Lib.hid (HB5.out.trans (hb6.mono HB5.out.size))
  have HS3e := Lib.hid (HS3d.out.below hb6)
  have HS4e := Lib.hid (HS4d.out.below hb6)
  clear hb6
  go_wp2_with fail
  go_at_call 24
  refine (sameCS HS3e.out HS4e.out (by omega)).mono ?_
  rw [smC_iff.2 rfl]
  rintro e w7 ⟨rfl, hb7⟩
  have HB7 := Lib.hid (HB6.out.trans (hb7.mono HB6.out.size))
  clear hb7
  go_wp2
  go_ret
  exact ⟨rfl, HB7.out⟩
end Go.Proofs.Ytpchkmjpmlbbgaa.It
