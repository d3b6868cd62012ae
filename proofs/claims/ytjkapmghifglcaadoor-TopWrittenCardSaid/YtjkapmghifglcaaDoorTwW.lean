/- The walk of TopWritten. -/
import Derived.Test.YtjkapmghifglcaaDoorTwM
import Derived.Test.YtjkapmghifglcaaDoorMgA
import Derived.Test.YtjkapmghifglcaaDoorMgC
namespace Go.Proofs.YtjkapmghifglcaaDoor.Dv
set_option linter.unusedVariables false
set_option linter.unusedSimpArgs false
open Go.ChangeShapes Go.WideShapes Go.ChangeAt Go.RowKit
open Ar Rg St
open BigFrame
open Hk (Row kc first row_below)
/-- what is written of an item -/
def wrB (x : It.Itm) : ByteArray := x.k ++ ⟨#[46]⟩ ++ x.v ++ ⟨#[46]⟩
def dat (L : List It.Itm) (j : Nat) : ByteArray := match L[j]? with | some x => wrB x | none => ByteArray.empty
theorem dat_at {L : List It.Itm} {j : Nat} {x : It.Itm} (h : L[j]? = some x) : dat L j = wrB x := by unfold dat; rw [h]
theorem wrB_size (x : It.Itm) : (wrB x).size = x.k.size + x.v.size + 2 := by
  unfold wrB
  rw [ByteArray.size_append, ByteArray.size_append, ByteArray.size_append]
  show x.k.size + 1 + x.v.size + 1 = _
  omega
theorem wrB_sfx (x : It.Itm) : sfx (wrB x) = false := by
  unfold sfx wrB
  rw [decide_eq_false_iff_not, ByteArray.data_append, Array.toList_append]
  show ¬ (_ ++ [46]).getLast? = some 0
  rw [List.getLast?_concat]
  decide
theorem wrB_ne (x : It.Itm) : wrB x ≠ ByteArray.empty := by
  intro h
  have := congrArg ByteArray.size h
  rw [wrB_size] at this
  have h0 : ByteArray.empty.size = 0 := rfl
  omega
theorem get_of {L : List It.Itm} (hr : It.rt L = true) {j : Nat} {x : It.Itm} (h : L[j]? = some x) : It.get L x.k = some x.v := by
  have hu := (It.rt_up hr).1
  have hj := (List.getElem?_eq_some_iff.1 h).1
  refine It.get_found (p := j) ⟨Nat.le_of_lt hj, fun y hy => ?_, fun y hy => ?_⟩ h rfl
  · obtain ⟨k, hk, e⟩ := List.mem_iff_getElem.1 hy
    rw [List.length_take] at hk
    rw [List.getElem_take] at e
    have h2 := List.pairwise_iff_getElem.1 hu k j (by omega) hj (by omega)
    rw [(List.getElem?_eq_some_iff.1 h).2, e] at h2
    exact h2
  · obtain ⟨k, hk, e⟩ := List.mem_iff_getElem.1 hy
    rw [List.length_drop] at hk
    rw [List.getElem_drop] at e
    rcases Nat.eq_zero_or_pos k with h0 | h0
    · subst h0
      have : L[j] = y := by simpa using e
      rw [← this, (List.getElem?_eq_some_iff.1 h).2]
      exact It.O.irrefl _
    · have h2 := List.pairwise_iff_getElem.1 hu j (j + k) hj (by omega) (by omega)
      rw [(List.getElem?_eq_some_iff.1 h).2, e] at h2
      exact It.O.asymm _ _ h2
theorem itm_ok {L : List It.Itm} (hr : It.rt L = true) {j : Nat} {x : It.Itm} (h : L[j]? = some x) : x.k.size ≤ 48 ∧ x.v.size ≤ 160 := by
  have := (It.rt_up hr).2 x (List.mem_of_getElem? h)
  unfold It.okI It.okKey at this
  simp only [Bool.and_eq_true, decide_eq_true_eq] at this
  exact ⟨this.1.2, this.2⟩
theorem slB_nil (w : World) : SlB w none 0 0 [] := ⟨rfl, Nat.le_refl _, Nat.zero_le _, 0, Nat.zero_le _, Ls.nil⟩
/-- where the writes stand -/
def TwSt (w wr : World) (vb : Nat) (L : List It.Itm) (i su : Nat) : Prop := ∃ x A1 n1 c1 A2 n2 c2, DV wr vb A1 n1 c1 A2 n2 c2 x ∧ Tw x (dat L) su i ∧ Below w.heap.size w wr
/-- where the reads stand -/
def TrSt (w wr : World) (vb : Nat) (z : De) : Prop := ∃ A1 n1 c1 A2 n2 c2, DV wr vb A1 n1 c1 A2 n2 c2 z ∧ Below w.heap.size w wr
variable {tK tS : TypeId}
set_option maxRecDepth 100000 in
set_option maxHeartbeats 4000000 in
theorem topWritten_walk (w : World) (L : List It.Itm) (A : Option Addr) (n c : Nat) (hn : n = L.length) (hm : n ≤ 281474976710656) (hL : Ls It.enc 2 w w.heap.size A L) (F : List Bool) (AF : Option Addr) (nf cf : Nat) (hF : SlK w AF nf F) (K : List Bool) (AK : Option Addr) (nk ck : Nat) (hK : SlK w AK nk K)
    (hR : Row w 1 tK kc) (hR0 : Row w 0 tS first.list) :
    Calls Tryd.prog 12 #[.slice A n c, .slice AF nf cf, .slice AK nk ck] w fun e w' => e = .returned (.bool true) ∧ Below w.heap.size w w' := by
  have HN := Lib.hid hn
  have HL := Lib.hid hL
  have HF := Lib.hid hF
  have HK := Lib.hid hK
  have RK := Lib.hid hR
  have RF := Lib.hid hR0
  clear hn hL hF hK hR hR0
  by_cases hr : It.rt L = true
  · have HG := Lib.hid (show ∀ j x, L[j]? = some x → It.get L x.k = some x.v from fun j x h => get_of hr h)
    have HOK := Lib.hid (show ∀ j x, L[j]? = some x → x.k.size ≤ 48 ∧ x.v.size ≤ 160 from fun j x h => itm_ok hr h)
    have HR := Lib.hid hr
    clear hr
    go_enter Tryd.func12, Tryd.ntmps12
    go_wp2_with fail
    (go_at_call 29; (with_reducible refine (Be.begins_any _ RK.out RF.out).mono ?_); rintro e w1 ⟨rfl, hb1⟩)
    have B1 := Lib.hid hb1
    clear hb1
    go_wp2_with fail
    go_at_call 30
    refine (It.check_any L A n c w.heap.size HN.out hm w1 B1.out.size (HL.out.below B1.out)).mono ?_
    rw [show It.errF (It.rt L) = .int .i64 0 by rw [HR.out]; rfl]
    rintro e w2 ⟨rfl, hb2⟩
    have B2 := Lib.hid (B1.out.trans (hb2.mono B1.out.size))
    clear hb2 B1 RK RF
    go_wp2_with (refine wpList_new (x := tw0) 7 25 rfl rfl rfl rfl (slB_nil _) (slB_nil _) (by decide) (by decide) (by decide) (by decide) ?_; intro w3 hb3 hd3; have H3 := Lib.hid hd3; have B3 := Lib.hid (B2.out.trans (hb3.mono B2.out.size)); clear hb3 hd3)
    have hvb : w.heap.size ≤ w2.heap.size := B2.out.size
    have HAT := Lib.hid (show TwSt w w3 w2.heap.size L 0 0 from ⟨_, _, _, _, _, _, _, H3.out, Tw.zero _, B3.out⟩)
    clear H3 B3
    go_loopw [8, 28] (fun u v wr => ∃ i su : Nat, i ≤ n ∧ i ≤ 16 ∧ su ≤ 16 ∧ u = .int .i64 su ∧ v = .int .i64 i ∧ Hid (TwSt w wr w2.heap.size L i su)) (fun _ v _ => n - (intOf v).toNat)
    case atStart => exact ⟨0, 0, Nat.zero_le _, Nat.zero_le _, Nat.zero_le _, by go_num, by go_num, HAT.out⟩
    case round =>
      clear HAT
      obtain ⟨wo, rfl⟩ : ∃ wo : World, wo = wr := ⟨_, rfl⟩
      obtain ⟨i, su, hi, hi16, hsu, rfl, rfl, hat⟩ := hrel
      obtain ⟨x, A1, n1, c1, A2, n2, c2, hV, hT, hbel⟩ := Hid.out hat
      clear hat
      have HT := Lib.hid hT
      clear hT
      by_cases hlt : i < n
      · by_cases h16 : i = 16
        · obtain ⟨y, hy⟩ : ∃ y, L[i]? = some y := ⟨_, List.getElem?_eq_getElem (by rw [← HN.out]; omega)⟩
          obtain ⟨g, o, hAe, hg, hrg⟩ := (HL.out.below hbel) i y hy
          have hgs : g < wo.heap.size := Nat.lt_of_lt_of_le hg hbel.size
          have hc0 : wo.cell? ⟨g, o + i * 2, none⟩ = some (.string y.k) := hrg 0 _ rfl
          have hc1 : wo.cell? ⟨g, o + i * 2 + 1, none⟩ = some (.string y.v) := hrg 1 _ rfl
          have hal : Below wo.heap.size wo (wo.alloc (.cells #[.string y.k, .string y.v] 52)) := (Below.refl _ _).alloc (Nat.le_refl _) _
          have HIB := Lib.hid (heap_alloc_new wo (.cells #[.string y.k, .string y.v] 52))
          have HB := Lib.hid (hbel.trans (hal.mono hbel.size))
          have H := Lib.hid (hV.below hal)
          clear hrg hal hV hbel hy HIB
          (first | subst hAe | cases hAe)
          have q16 : ((i : Int) == 16) = true := by rw [beq_iff_eq]; omega
          have HI16 := Lib.hid h16
          clear h16
          have q0 := H.out.box.c0
          have q1 := H.out.box.c1
          have q2 := H.out.box.c2
          have q3 := H.out.box.c3
          have q4 := H.out.box.c4
          go_wp2_with fail
          obtain ⟨z, hz⟩ : ∃ z, crX x (kp K) = z := ⟨_, rfl⟩
          have HZ := Lib.hid hz
          have HCR := Lib.hid (show ∀ num, num < i → num < 16 → rdO z num = 0 ∧ rdX z num = if kept su i (kp K) num then dat L num else ByteArray.empty from fun num h1 h2 => by rw [← hz]; exact HT.out.crash (kp K) h1 h2)
          clear hz
          go_at_call 24
          refine (crashS K (HK.out.below (HB.out.mono (Nat.le_refl _))) H.out).mono ?_
          rw [HZ.out, HT.out.cho]
          rintro e w5 ⟨A5, n5, c5, B5, m5, d5, rfl, y1, y2, y3, y4, y5, y6, hb⟩
          have Y1 := Lib.hid y1
          have Y2 := Lib.hid y2
          have H5 := Lib.hid (H.out.below hb)
          have HB5 := Lib.hid (HB.out.trans (hb.mono HB.out.size))
          clear hb y1 y2 q0 q1 q2 q3 q4
          go_wp2_with (refine wpList_over H5.out (x := z) 7 71 rfl rfl rfl rfl Y1.out Y2.out y3 y4 y5 y6 ?_; intro w6 ho hd; have H6 := Lib.hid hd; have HB6 := Lib.hid (below_over HB5.out (by omega) ho); clear hd ho)
          clear Y1 Y2 H5 HB5 H HB
          have HAT := Lib.hid (show TrSt w w6 w2.heap.size z from ⟨_, _, _, _, _, _, H6.out, HB6.out⟩)
          clear H6 HB6
          go_loopw [75] (fun v wr => ∃ j : Nat, j ≤ n ∧ j ≤ 16 ∧ v = .int .i64 j ∧ Hid (TrSt w wr w2.heap.size z)) (fun v _ => n - (intOf v).toNat)
          case atStart => exact ⟨0, Nat.zero_le _, Nat.zero_le _, by go_num, HAT.out⟩
          case round =>
            clear HAT
            obtain ⟨j, hj, hj16, rfl, hat⟩ := hrel
            obtain ⟨A1, n1, c1, A2, n2, c2, hV, hbel⟩ := Hid.out hat
            clear hat
            by_cases hjn : j < n
            · obtain ⟨y, hy⟩ : ∃ y, L[j]? = some y := ⟨_, List.getElem?_eq_getElem (by rw [← HN.out]; omega)⟩
              obtain ⟨g, o, hAe, hg, hrg⟩ := (HL.out.below hbel) j y hy
              have hgs : g < wr.heap.size := Nat.lt_of_lt_of_le hg hbel.size
              have hc0 : wr.cell? ⟨g, o + j * 2, none⟩ = some (.string y.k) := hrg 0 _ rfl
              have hc1 : wr.cell? ⟨g, o + j * 2 + 1, none⟩ = some (.string y.v) := hrg 1 _ rfl
              have hal : Below wr.heap.size wr (wr.alloc (.cells #[.string y.k, .string y.v] 52)) := (Below.refl _ _).alloc (Nat.le_refl _) _
              have HIB := Lib.hid (heap_alloc_new wr (.cells #[.string y.k, .string y.v] 52))
              have HB9 := Lib.hid (hbel.trans (hal.mono hbel.size))
              have H9 := Lib.hid (hV.below hal)
              have HY := Lib.hid hy
              clear hrg hal hV hbel hy
              (first | subst hAe | cases hAe)
              have q0 := H9.out.box.c0
              have q1 := H9.out.box.c1
              have q2 := H9.out.box.c2
              have q3 := H9.out.box.c3
              have q4 := H9.out.box.c4
              by_cases h16 : j = 16
              · subst h16
                clear HIB
                go_wp2_with fail
                all_goals go_ret
                all_goals exact ⟨rfl, HB9.out⟩
              · have hji : j < i := by have := HI16.out; omega
                have hj2 : j < 16 := by omega
                obtain ⟨hro, hrx⟩ := HCR.out j hji hj2
                obtain ⟨S, hS⟩ : ∃ S, rdX z j = S := ⟨_, rfl⟩
                rw [hS, dat_at HY.out] at hrx
                have HRO := Lib.hid hro
                have HSS := Lib.hid hS
                have HRX := Lib.hid hrx
                clear hro hS hrx
                have qi0 : (wr.alloc (.cells #[.string y.k, .string y.v] 52)).cell? ⟨wr.heap.size, 0, none⟩ = some (.string y.k) := cell_of_row _ _ 0 _ _ _ HIB.out
                go_wp2_with fail
                go_at_call 18
                refine (readS j H9.out).mono ?_
                rw [HRO.out, HSS.out]
                rintro e w7 ⟨rfl, hb7⟩
                have HIB7 := Lib.hid (below_row HIB.out hb7 (heap_lt HIB.out))
                have H7 := Lib.hid (H9.out.below hb7)
                have HB7 := Lib.hid (HB9.out.trans (hb7.mono HB9.out.size))
                clear hb7 H9 HB9 HIB qi0 q0 q1 q2 q3 q4
                have qi0 : w7.cell? ⟨wr.heap.size, 0, none⟩ = some (.string y.k) := cell_of_row _ _ 0 _ _ _ HIB7.out
                go_wp2_with fail
                go_at_call 31
                refine (It.get_any L y.k _ n c w.heap.size HN.out hm w7 HB7.out.size (HL.out.below HB7.out)).mono ?_
                rw [HR.out, HG.out j y HY.out]
                rintro e w8 ⟨he, hb8⟩
                obtain rfl : e = .returned (.tuple #[.string y.v, .int .i64 0]) := he
                have HIB8 := Lib.hid (below_row HIB7.out hb8 (heap_lt HIB7.out))
                have H8 := Lib.hid (H7.out.below hb8)
                have HB8 := Lib.hid (HB7.out.trans (hb8.mono HB7.out.size))
                clear hb8 H7 HB7 HIB7 qi0
                have qi0 : w8.cell? ⟨wr.heap.size, 0, none⟩ = some (.string y.k) := cell_of_row _ _ 0 _ _ _ HIB8.out
                obtain ⟨ks, vs⟩ := HOK.out j y HY.out
                by_cases hjs : j < su
                · have c1' : decide (su ≤ j) = false := by rw [decide_eq_false_iff_not]; omega
                  have c2' : decide (j < su) = true := by rw [decide_eq_true_iff]; omega
                  have HSE := Lib.hid (show S = wrB y by rw [HRX.out, if_pos (by unfold kept; rw [decide_eq_true hjs]; rfl)])
                  have hs1 : S.toList = (y.k ++ ⟨#[46]⟩ ++ y.v ++ ⟨#[46]⟩).toList := by rw [HSE.out]; rfl
                  clear HSE HRX
                  clear hjs
                  go_wp2_with fail
                  exact ⟨⟨j + 1, by omega, by omega, by go_num, ⟨_, _, _, _, _, _, H8.out, HB8.out⟩⟩, by simp [intOf] <;> omega⟩
                · have c1' : decide (su ≤ j) = true := by rw [decide_eq_true_iff]; omega
                  have c2' : decide (j < su) = false := by rw [decide_eq_false_iff_not]; omega
                  obtain ⟨k, hk⟩ : ∃ k, k = j - su := ⟨_, rfl⟩
                  have e1' : (j : Int) - (su : Int) = (k : Int) := by omega
                  have HKE := Lib.hid (show kept su i (kp K) j = kp K k by unfold kept; rw [decide_eq_false hjs, decide_eq_true (show su ≤ j by omega), Bool.false_or, Bool.true_and, hk])
                  have hk16 : k ≤ 16 := by omega
                  clear hk hjs
                  have hKw := HK.out.below HB8.out
                  have hKn : nk = K.length := HK.out.1
                  by_cases hkn : k < nk
                  · obtain ⟨gk, ok, hAk, _, hck⟩ := hKw.2 k (by omega)
                    obtain ⟨b, hb⟩ : ∃ b, K[k]'(by omega) = b := ⟨_, rfl⟩
                    rw [hb] at hck
                    have c3' : decide (k < nk) = true := by rw [decide_eq_true_iff]; omega
                    have HKB := Lib.hid (show kp K k = b by unfold kp; rw [List.getElem?_eq_getElem (by omega), hb]; rfl)
                    subst hAk
                    clear hKw hb hKn
                    cases b with
                    | true =>
                      have HSE := Lib.hid (show S = wrB y by rw [HRX.out, HKE.out, HKB.out, if_pos rfl])
                      have hs1 : S.toList = (y.k ++ ⟨#[46]⟩ ++ y.v ++ ⟨#[46]⟩).toList := by rw [HSE.out]; rfl
                      clear HSE HRX
                      clear HKE HKB
                      go_wp2_with fail
                      exact ⟨⟨j + 1, by omega, by omega, by go_num, ⟨_, _, _, _, _, _, H8.out, HB8.out⟩⟩, by simp [intOf] <;> omega⟩
                    | false =>
                      have HSE := Lib.hid (show S = ByteArray.empty by rw [HRX.out, HKE.out, HKB.out, if_neg Bool.false_ne_true])
                      have hs1 : ¬ (y.k ++ ⟨#[46]⟩ ++ y.v ++ ⟨#[46]⟩).toList = [] := by
                        rw [ByteArray.toList_eq]
                        intro h
                        exact wrB_ne y (ByteArray.ext (Array.toList_inj.1 h))
                      have hs3 : (y.k ++ ⟨#[46]⟩ ++ y.v ++ ⟨#[46]⟩).toList.isEmpty = false := by simpa using hs1
                      have hs2 : S.toList = [] := by rw [HSE.out, ByteArray.toList_eq]; rfl
                      clear HSE HRX
                      clear HKE HKB
                      go_wp2_with fail
                      exact ⟨⟨j + 1, by omega, by omega, by go_num, ⟨_, _, _, _, _, _, H8.out, HB8.out⟩⟩, by simp [intOf] <;> omega⟩
                  · have c3' : decide (k < nk) = false := by rw [decide_eq_false_iff_not]; omega
                    have HSE := Lib.hid (show S = ByteArray.empty by rw [HRX.out, HKE.out, show kp K k = false by unfold kp; rw [List.getElem?_eq_none (by omega)]; rfl, if_neg Bool.false_ne_true])
                    have hs1 : ¬ (y.k ++ ⟨#[46]⟩ ++ y.v ++ ⟨#[46]⟩).toList = [] := by
                      rw [ByteArray.toList_eq]
                      intro h
                      exact wrB_ne y (ByteArray.ext (Array.toList_inj.1 h))
                    have hs3 : (y.k ++ ⟨#[46]⟩ ++ y.v ++ ⟨#[46]⟩).toList.isEmpty = false := by simpa using hs1
                    have hs2 : S.toList = [] := by rw [HSE.out, ByteArray.toList_eq]; rfl
                    clear HSE HRX
                    clear HKE hKw hKn
                    go_wp2_with fail
                    exact ⟨⟨j + 1, by omega, by omega, by go_num, ⟨_, _, _, _, _, _, H8.out, HB8.out⟩⟩, by simp [intOf] <;> omega⟩
            · clear hV
              have HBR := Lib.hid hbel
              clear hbel
              go_wp2_with fail
              go_ret
              exact ⟨rfl, HBR.out⟩
        · obtain ⟨y, hy⟩ : ∃ y, L[i]? = some y := ⟨_, List.getElem?_eq_getElem (by rw [← HN.out]; omega)⟩
          obtain ⟨g, o, hAe, hg, hrg⟩ := (HL.out.below hbel) i y hy
          have hgs : g < wo.heap.size := Nat.lt_of_lt_of_le hg hbel.size
          have hc0 : wo.cell? ⟨g, o + i * 2, none⟩ = some (.string y.k) := hrg 0 _ rfl
          have hc1 : wo.cell? ⟨g, o + i * 2 + 1, none⟩ = some (.string y.v) := hrg 1 _ rfl
          have hal : Below wo.heap.size wo (wo.alloc (.cells #[.string y.k, .string y.v] 52)) := (Below.refl _ _).alloc (Nat.le_refl _) _
          have HIB := Lib.hid (heap_alloc_new wo (.cells #[.string y.k, .string y.v] 52))
          have HY := Lib.hid hy
          have HB := Lib.hid (hbel.trans (hal.mono hbel.size))
          have H := Lib.hid (hV.below hal)
          have hi15 : i < 16 := by omega
          have q16 : ((i : Int) == 16) = false := by rw [beq_eq_false_iff_ne]; omega
          obtain ⟨ks, vs⟩ := HOK.out i y hy
          have qk : (wo.alloc (.cells #[.string y.k, .string y.v] 52)).cell? ⟨wo.heap.size, 0, none⟩ = some (.string y.k) := cell_of_row _ _ 0 _ _ _ HIB.out
          have qv : (wo.alloc (.cells #[.string y.k, .string y.v] 52)).cell? ⟨wo.heap.size, 1, none⟩ = some (.string y.v) := cell_of_row _ _ 1 _ _ _ HIB.out
          have hTW := HT.out.write hi15 (by rw [dat_at hy, wrB_size]; omega) (by rw [dat_at hy]; exact wrB_sfx y)
          rw [dat_at hy] at hTW
          obtain ⟨x2, hx2⟩ : ∃ x2, wrX x i (wrB y) = x2 := ⟨_, rfl⟩
          rw [hx2] at hTW
          have HX2 := Lib.hid hx2
          have HT2 := Lib.hid hTW
          clear hrg hal hV hbel hy HIB hTW hx2 h16
          (first | subst hAe | cases hAe)
          have q0 := H.out.box.c0
          have q1 := H.out.box.c1
          have q2 := H.out.box.c2
          have q3 := H.out.box.c3
          have q4 := H.out.box.c4
          go_wp2_with fail
          go_at_call 14
          refine (writeS i (wrB y) (by rw [wrB_size]; omega) H.out).mono ?_
          rw [HX2.out, HT2.out.1]
          rintro e w5 ⟨A5, n5, c5, B5, m5, d5, rfl, y1, y2, y3, y4, y5, y6, hb⟩
          have Y1 := Lib.hid y1
          have Y2 := Lib.hid y2
          have H5 := Lib.hid (H.out.below hb)
          have HB5 := Lib.hid (HB.out.trans (hb.mono HB.out.size))
          clear hb y1 y2 q0 q1 q2 q3 q4 qk qv
          have hFn : nf = F.length := HF.out.1
          by_cases hfl : i < nf
          · obtain ⟨gf, of_, hAf, hgf, hcf⟩ := HF.out.2 i (by omega)
            obtain ⟨b, hb⟩ : ∃ b, F[i]'(by omega) = b := ⟨_, rfl⟩
            rw [hb] at hcf
            have c4' : decide (i < nf) = true := by rw [decide_eq_true_iff]; omega
            subst hAf
            clear hb hFn
            cases b with
            | true =>
              go_wp2_with (refine wpList_over H5.out (x := x2) 7 47 rfl rfl rfl rfl Y1.out Y2.out y3 y4 y5 y6 ?_; intro w6 ho hd; have H6 := Lib.hid hd; have HB6 := Lib.hid (below_over HB5.out hvb ho); clear hd ho; have hcf6 := (HB6.out.cell (p := ⟨gf, of_ + i, none⟩) hgf).trans hcf; have q0 := H6.out.box.c0; have q1 := H6.out.box.c1; have q2 := H6.out.box.c2; have q3 := H6.out.box.c3; have q4 := H6.out.box.c4)
              go_at_call 16
              refine (flushS H6.out).mono ?_
              obtain ⟨hf0, hf1⟩ := HT2.out.2.flush
              obtain ⟨x3, hx3⟩ : ∃ x3, flX x2 = x3 := ⟨_, rfl⟩
              rw [hx3] at hf1
              rw [hf0, hx3]
              rintro e w7 ⟨A7, n7, c7, B7, m7, d7, rfl, z1, z2, z3, z4, z5, z6, hb⟩
              have Z1 := Lib.hid z1
              have Z2 := Lib.hid z2
              have HF1 := Lib.hid hf1
              have H7 := Lib.hid (H6.out.below hb)
              have HB7 := Lib.hid (HB6.out.trans (hb.mono HB6.out.size))
              clear hb z1 z2 q0 q1 q2 q3 q4 hcf6 hf0 hf1 hx3 H5 HB5 Y1 Y2
              go_wp2_with (refine wpList_over H7.out (x := x3) 7 62 rfl rfl rfl rfl Z1.out Z2.out z3 z4 z5 z6 ?_; intro w8 ho hd; have H8 := Lib.hid hd; have HB8 := Lib.hid (below_over HB7.out hvb ho); clear hd ho)
              exact ⟨⟨i + 1, i + 1, by omega, by omega, by omega, by go_num, by go_num, ⟨_, _, _, _, _, _, _, H8.out, HF1.out, HB8.out⟩⟩, by simp [intOf] <;> omega⟩
            | false =>
              go_wp2_with (refine wpList_over H5.out (x := x2) 7 47 rfl rfl rfl rfl Y1.out Y2.out y3 y4 y5 y6 ?_; intro w6 ho hd; have H6 := Lib.hid hd; have HB6 := Lib.hid (below_over HB5.out hvb ho); clear hd ho; have hcf6 := (HB6.out.cell (p := ⟨gf, of_ + i, none⟩) hgf).trans hcf)
              exact ⟨⟨i + 1, su, by omega, by omega, by omega, by go_num, by go_num, ⟨_, _, _, _, _, _, _, H6.out, HT2.out.2, HB6.out⟩⟩, by simp [intOf] <;> omega⟩
          · have c4' : decide (i < nf) = false := by rw [decide_eq_false_iff_not]; omega
            clear hFn
            go_wp2_with (refine wpList_over H5.out (x := x2) 7 47 rfl rfl rfl rfl Y1.out Y2.out y3 y4 y5 y6 ?_; intro w6 ho hd; have H6 := Lib.hid hd; have HB6 := Lib.hid (below_over HB5.out hvb ho); clear hd ho)
            exact ⟨⟨i + 1, su, by omega, by omega, by omega, by go_num, by go_num, ⟨_, _, _, _, _, _, _, H6.out, HT2.out.2, HB6.out⟩⟩, by simp [intOf] <;> omega⟩
      · have HB := Lib.hid hbel
        have H := Lib.hid hV
        clear hV hbel
        have q0 := H.out.box.c0
        have q1 := H.out.box.c1
        have q2 := H.out.box.c2
        have q3 := H.out.box.c3
        have q4 := H.out.box.c4
        go_wp2_with fail
        obtain ⟨z, hz⟩ : ∃ z, crX x (kp K) = z := ⟨_, rfl⟩
        have HZ := Lib.hid hz
        have HCR := Lib.hid (show ∀ num, num < i → num < 16 → rdO z num = 0 ∧ rdX z num = if kept su i (kp K) num then dat L num else ByteArray.empty from fun num h1 h2 => by rw [← hz]; exact HT.out.crash (kp K) h1 h2)
        clear hz
        go_at_call 24
        refine (crashS K (HK.out.below (HB.out.mono (Nat.le_refl _))) H.out).mono ?_
        rw [HZ.out, HT.out.cho]
        rintro e w5 ⟨A5, n5, c5, B5, m5, d5, rfl, y1, y2, y3, y4, y5, y6, hb⟩
        have Y1 := Lib.hid y1
        have Y2 := Lib.hid y2
        have H5 := Lib.hid (H.out.below hb)
        have HB5 := Lib.hid (HB.out.trans (hb.mono HB.out.size))
        clear hb y1 y2 q0 q1 q2 q3 q4
        go_wp2_with (refine wpList_over H5.out (x := z) 7 71 rfl rfl rfl rfl Y1.out Y2.out y3 y4 y5 y6 ?_; intro w6 ho hd; have H6 := Lib.hid hd; have HB6 := Lib.hid (below_over HB5.out (by omega) ho); clear hd ho)
        clear Y1 Y2 H5 HB5 H HB
        have HAT := Lib.hid (show TrSt w w6 w2.heap.size z from ⟨_, _, _, _, _, _, H6.out, HB6.out⟩)
        clear H6 HB6
        go_loopw [75] (fun v wr => ∃ j : Nat, j ≤ n ∧ j ≤ 16 ∧ v = .int .i64 j ∧ Hid (TrSt w wr w2.heap.size z)) (fun v _ => n - (intOf v).toNat)
        case atStart => exact ⟨0, Nat.zero_le _, Nat.zero_le _, by go_num, HAT.out⟩
        case round =>
          clear HAT
          obtain ⟨j, hj, hj16, rfl, hat⟩ := hrel
          obtain ⟨A1, n1, c1, A2, n2, c2, hV, hbel⟩ := Hid.out hat
          clear hat
          by_cases hjn : j < n
          · obtain ⟨y, hy⟩ : ∃ y, L[j]? = some y := ⟨_, List.getElem?_eq_getElem (by rw [← HN.out]; omega)⟩
            obtain ⟨g, o, hAe, hg, hrg⟩ := (HL.out.below hbel) j y hy
            have hgs : g < wr.heap.size := Nat.lt_of_lt_of_le hg hbel.size
            have hc0 : wr.cell? ⟨g, o + j * 2, none⟩ = some (.string y.k) := hrg 0 _ rfl
            have hc1 : wr.cell? ⟨g, o + j * 2 + 1, none⟩ = some (.string y.v) := hrg 1 _ rfl
            have hal : Below wr.heap.size wr (wr.alloc (.cells #[.string y.k, .string y.v] 52)) := (Below.refl _ _).alloc (Nat.le_refl _) _
            have HIB := Lib.hid (heap_alloc_new wr (.cells #[.string y.k, .string y.v] 52))
            have HB9 := Lib.hid (hbel.trans (hal.mono hbel.size))
            have H9 := Lib.hid (hV.below hal)
            have HY := Lib.hid hy
            clear hrg hal hV hbel hy
            (first | subst hAe | cases hAe)
            have q0 := H9.out.box.c0
            have q1 := H9.out.box.c1
            have q2 := H9.out.box.c2
            have q3 := H9.out.box.c3
            have q4 := H9.out.box.c4
            by_cases h16 : j = 16
            · subst h16
              clear HIB
              go_wp2_with fail
              all_goals go_ret
              all_goals exact ⟨rfl, HB9.out⟩
            · have hji : j < i := by omega
              have hj2 : j < 16 := by omega
              obtain ⟨hro, hrx⟩ := HCR.out j hji hj2
              obtain ⟨S, hS⟩ : ∃ S, rdX z j = S := ⟨_, rfl⟩
              rw [hS, dat_at HY.out] at hrx
              have HRO := Lib.hid hro
              have HSS := Lib.hid hS
              have HRX := Lib.hid hrx
              clear hro hS hrx
              have qi0 : (wr.alloc (.cells #[.string y.k, .string y.v] 52)).cell? ⟨wr.heap.size, 0, none⟩ = some (.string y.k) := cell_of_row _ _ 0 _ _ _ HIB.out
              go_wp2_with fail
              go_at_call 18
              refine (readS j H9.out).mono ?_
              rw [HRO.out, HSS.out]
              rintro e w7 ⟨rfl, hb7⟩
              have HIB7 := Lib.hid (below_row HIB.out hb7 (heap_lt HIB.out))
              have H7 := Lib.hid (H9.out.below hb7)
              have HB7 := Lib.hid (HB9.out.trans (hb7.mono HB9.out.size))
              clear hb7 H9 HB9 HIB qi0 q0 q1 q2 q3 q4
              have qi0 : w7.cell? ⟨wr.heap.size, 0, none⟩ = some (.string y.k) := cell_of_row _ _ 0 _ _ _ HIB7.out
              go_wp2_with fail
              go_at_call 31
              refine (It.get_any L y.k _ n c w.heap.size HN.out hm w7 HB7.out.size (HL.out.below HB7.out)).mono ?_
              rw [HR.out, HG.out j y HY.out]
              rintro e w8 ⟨he, hb8⟩
              obtain rfl : e = .returned (.tuple #[.string y.v, .int .i64 0]) := he
              have HIB8 := Lib.hid (below_row HIB7.out hb8 (heap_lt HIB7.out))
              have H8 := Lib.hid (H7.out.below hb8)
              have HB8 := Lib.hid (HB7.out.trans (hb8.mono HB7.out.size))
              clear hb8 H7 HB7 HIB7 qi0
              have qi0 : w8.cell? ⟨wr.heap.size, 0, none⟩ = some (.string y.k) := cell_of_row _ _ 0 _ _ _ HIB8.out
              obtain ⟨ks, vs⟩ := HOK.out j y HY.out
              by_cases hjs : j < su
              · have c1' : decide (su ≤ j) = false := by rw [decide_eq_false_iff_not]; omega
                have c2' : decide (j < su) = true := by rw [decide_eq_true_iff]; omega
                have HSE := Lib.hid (show S = wrB y by rw [HRX.out, if_pos (by unfold kept; rw [decide_eq_true hjs]; rfl)])
                have hs1 : S.toList = (y.k ++ ⟨#[46]⟩ ++ y.v ++ ⟨#[46]⟩).toList := by rw [HSE.out]; rfl
                clear HSE HRX
                clear hjs
                go_wp2_with fail
                exact ⟨⟨j + 1, by omega, by omega, by go_num, ⟨_, _, _, _, _, _, H8.out, HB8.out⟩⟩, by simp [intOf] <;> omega⟩
              · have c1' : decide (su ≤ j) = true := by rw [decide_eq_true_iff]; omega
                have c2' : decide (j < su) = false := by rw [decide_eq_false_iff_not]; omega
                obtain ⟨k, hk⟩ : ∃ k, k = j - su := ⟨_, rfl⟩
                have e1' : (j : Int) - (su : Int) = (k : Int) := by omega
                have HKE := Lib.hid (show kept su i (kp K) j = kp K k by unfold kept; rw [decide_eq_false hjs, decide_eq_true (show su ≤ j by omega), Bool.false_or, Bool.true_and, hk])
                have hk16 : k ≤ 16 := by omega
                clear hk hjs
                have hKw := HK.out.below HB8.out
                have hKn : nk = K.length := HK.out.1
                by_cases hkn : k < nk
                · obtain ⟨gk, ok, hAk, _, hck⟩ := hKw.2 k (by omega)
                  obtain ⟨b, hb⟩ : ∃ b, K[k]'(by omega) = b := ⟨_, rfl⟩
                  rw [hb] at hck
                  have c3' : decide (k < nk) = true := by rw [decide_eq_true_iff]; omega
                  have HKB := Lib.hid (show kp K k = b by unfold kp; rw [List.getElem?_eq_getElem (by omega), hb]; rfl)
                  subst hAk
                  clear hKw hb hKn
                  cases b with
                  | true =>
                    have HSE := Lib.hid (show S = wrB y by rw [HRX.out, HKE.out, HKB.out, if_pos rfl])
                    have hs1 : S.toList = (y.k ++ ⟨#[46]⟩ ++ y.v ++ ⟨#[46]⟩).toList := by rw [HSE.out]; rfl
                    clear HSE HRX
                    clear HKE HKB
                    go_wp2_with fail
                    exact ⟨⟨j + 1, by omega, by omega, by go_num, ⟨_, _, _, _, _, _, H8.out, HB8.out⟩⟩, by simp [intOf] <;> omega⟩
                  | false =>
                    have HSE := Lib.hid (show S = ByteArray.empty by rw [HRX.out, HKE.out, HKB.out, if_neg Bool.false_ne_true])
                    have hs1 : ¬ (y.k ++ ⟨#[46]⟩ ++ y.v ++ ⟨#[46]⟩).toList = [] := by
                      rw [ByteArray.toList_eq]
                      intro h
                      exact wrB_ne y (ByteArray.ext (Array.toList_inj.1 h))
                    have hs3 : (y.k ++ ⟨#[46]⟩ ++ y.v ++ ⟨#[46]⟩).toList.isEmpty = false := by simpa using hs1
                    have hs2 : S.toList = [] := by rw [HSE.out, ByteArray.toList_eq]; rfl
                    clear HSE HRX
                    clear HKE HKB
                    go_wp2_with fail
                    exact ⟨⟨j + 1, by omega, by omega, by go_num, ⟨_, _, _, _, _, _, H8.out, HB8.out⟩⟩, by simp [intOf] <;> omega⟩
                · have c3' : decide (k < nk) = false := by rw [decide_eq_false_iff_not]; omega
                  have HSE := Lib.hid (show S = ByteArray.empty by rw [HRX.out, HKE.out, show kp K k = false by unfold kp; rw [List.getElem?_eq_none (by omega)]; rfl, if_neg Bool.false_ne_true])
                  have hs1 : ¬ (y.k ++ ⟨#[46]⟩ ++ y.v ++ ⟨#[46]⟩).toList = [] := by
                    rw [ByteArray.toList_eq]
                    intro h
                    exact wrB_ne y (ByteArray.ext (Array.toList_inj.1 h))
                  have hs3 : (y.k ++ ⟨#[46]⟩ ++ y.v ++ ⟨#[46]⟩).toList.isEmpty = false := by simpa using hs1
                  have hs2 : S.toList = [] := by rw [HSE.out, ByteArray.toList_eq]; rfl
                  clear HSE HRX
                  clear HKE hKw hKn
                  go_wp2_with fail
                  exact ⟨⟨j + 1, by omega, by omega, by go_num, ⟨_, _, _, _, _, _, H8.out, HB8.out⟩⟩, by simp [intOf] <;> omega⟩
          · clear hV
            have HBR := Lib.hid hbel
            clear hbel
            go_wp2_with fail
            go_ret
            exact ⟨rfl, HBR.out⟩
  · have hr : It.rt L = false := by simpa using hr
    have HR := Lib.hid hr
    clear hr
    go_enter Tryd.func12, Tryd.ntmps12
    go_wp2_with fail
    (go_at_call 29; (with_reducible refine (Be.begins_any _ RK.out RF.out).mono ?_); rintro e w1 ⟨rfl, hb1⟩)
    have B1 := Lib.hid hb1
    clear hb1
    go_wp2_with fail
    go_at_call 30
    refine (It.check_any L A n c w.heap.size HN.out hm w1 B1.out.size (HL.out.below B1.out)).mono ?_
    rw [show It.errF (It.rt L) = .int .i64 4 by rw [HR.out]; rfl]
    rintro e w2 ⟨rfl, hb2⟩
    have B2 := Lib.hid (B1.out.trans (hb2.mono B1.out.size))
    clear hb2 B1 RK RF
    go_wp2_with fail
    go_ret
    exact ⟨rfl, B2.out⟩
end Go.Proofs.YtjkapmghifglcaaDoor.Dv
