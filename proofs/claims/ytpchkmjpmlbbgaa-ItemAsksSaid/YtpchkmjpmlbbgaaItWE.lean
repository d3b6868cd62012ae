/- The walk of the law ItemLast. -/
import Derived.Test.YtpchkmjpmlbbgaaItW
namespace Go.Proofs.Ytpchkmjpmlbbgaa.It
set_option linter.unusedVariables false
open Go.ChangeShapes Go.WideShapes Go.ChangeAt Go.RowKit
open Ar Rg St
open BigFrame
def was (o : Option ByteArray) : ByteArray := match o with | some v => v | none => { data := #[] }
def no (o : Option ByteArray) : Int := match o with | some _ => 0 | none => 5
theorem getV_true (o : Option ByteArray) : getV true o = .tuple #[.string (was o), .int .i64 (no o)] := by cases o <;> rfl
theorem lastV_snoc (k : ByteArray) (c : Ch) : ∀ (C : List Ch) (o : Option ByteArray), lastV k o (C ++ [c]) = if ckey c = k.data.toList then (if c.h then some c.v else none) else lastV k o C
  | [], o => rfl
  | d :: C, o => by rw [List.cons_append, lastV, lastV_snoc k c C, lastV]
theorem lastV_take {k : ByteArray} {o : Option ByteArray} {C : List Ch} {i : Nat} {c : Ch} (hc : C[i]? = some c) : lastV k o (C.take (i + 1)) = if ckey c = k.data.toList then (if c.h then some c.v else none) else lastV k o (C.take i) := by
  rw [List.take_add_one, hc]
  exact lastV_snoc k c _ o
set_option maxRecDepth 100000 in
set_option maxHeartbeats 2000000 in
theorem itemLast_walk (w : World) (D : List Itm) (A : Option Addr) (n c : Nat) (C : List Ch) (A' : Option Addr) (m c' : Nat) (k : ByteArray) (hl : n ≤ 1048576) (hD : SlI w A n c D) (hl' : m ≤ 1048576) (hC : SlC w A' m c' C) (hks : k.size ≤ maxLen) :
    Calls Try.prog 6 #[.slice A n c, .slice A' m c', .string k] w fun e w' => e = .returned (.bool true) ∧ Below w.heap.size w w' := by
  have HD := Lib.hid hD
  have HC := Lib.hid hC
  have HN := Lib.hid hD.1
  have HN' := Lib.hid hC.1
  have e4 : er false = 4 := rfl
  have e0 : er true = 0 := rfl
  clear hD hC hks
  have hq : (rt D && rc C) = false ∨ (rt D && rc C) = true := by cases (rt D && rc C) <;> simp
  go_enter Try.func6, Try.ntmps6
  go_wp2_with fail
  go_at_call 16
  refine (lives_true _).mono ?_
  rintro e w1 ⟨rfl, hb1⟩
  have HB1 := Lib.hid hb1
  clear hb1
  rcases hq with hq | hq
  · have HQ := Lib.hid hq
    clear hq
    go_wp2_with fail
    go_at_call 20
    refine (applyS (HD.out.below HB1.out) (HC.out.below HB1.out) (by omega) (by omega)).mono ?_
    rw [HQ.out]
    rintro e w2 ⟨A2, n2, c2, he, hs2, hb2⟩
    have he' : e = .returned (.tuple #[.slice A2 n2 c2, .int .i64 (er false)]) := he
    subst he'
    have HS2 := Lib.hid (show SlI w2 A2 n2 c2 [] from hs2)
    have HB2 := Lib.hid (HB1.out.trans (hb2.mono HB1.out.size))
    clear hb2 hs2 he
    obtain rfl : n2 = 0 := HS2.out.1
    go_wp2
    go_ret
    exact ⟨rfl, HB2.out⟩
  · have HQ := Lib.hid hq
    have hxy : rt D = true ∧ rc C = true := by simpa using hq
    have HXY := Lib.hid hxy
    clear hq hxy
    go_wp2_with fail
    go_at_call 20
    refine (applyS (HD.out.below HB1.out) (HC.out.below HB1.out) (by omega) (by omega)).mono ?_
    rw [HQ.out]
    rintro e w2 ⟨A2, n2, c2, he, hs2, hb2⟩
    have he' : e = .returned (.tuple #[.slice A2 n2 c2, .int .i64 (er true)]) := he
    subst he'
    have HS2 := Lib.hid (show SlI w2 A2 n2 c2 (app D C) from hs2)
    have HB2 := Lib.hid (HB1.out.trans (hb2.mono HB1.out.size))
    clear hb2 hs2 he HB1
    have hn2 : n2 ≤ 2097152 := by have h1 := HS2.out.1; have h2 := app_len C D; have h3 := HN.out; have h4 := HN'.out; omega
    go_wp2_with fail
    go_at_call 12
    refine (getS (HD.out.below HB2.out) k (by omega)).mono ?_
    rw [HXY.out.1, getV_true]
    rintro e w3 ⟨rfl, hb3⟩
    have HB3 := Lib.hid (HB2.out.trans (hb3.mono HB2.out.size))
    have HS3 := Lib.hid (HS2.out.below hb3)
    clear hb3 HB2 HS2
    go_wp2_with fail
    go_loopw [9, 10, 36] (fun sv nv v wr => ∃ i : Nat, i ≤ m ∧ v = .int .i64 i ∧ sv = .string (was (lastV k (get D k) (C.take i))) ∧ nv = .int .i64 (no (lastV k (get D k) (C.take i))) ∧ Hid (Below w3.heap.size w3 wr)) (fun _ _ v _ => m - (intOf v).toNat)
    case atStart => exact ⟨0, Nat.zero_le _, by go_num, rfl, rfl, Below.refl _ _⟩
    case round =>
      obtain ⟨i, hi, rfl, rfl, rfl, hbel⟩ := hrel
      have HBW := Lib.hid (HB3.out.trans ((Hid.out hbel).mono HB3.out.size))
      by_cases hlt : i < m
      · obtain ⟨x, b, o, hx, hAe, hbs, hc0, hc1, hc2⟩ := (HC.out.below HBW.out).at_ hlt
        subst hAe
        have HT := Lib.hid (lastV_take (k := k) (o := get D k) hx)
        have hok := rc_iff.1 HXY.out.2 x (List.mem_of_getElem? hx)
        have HBN := Lib.hid (show Below w3.heap.size w3 (wr.alloc (.cells #[.string x.k, .bool x.h, .string x.v] 39)) from (Hid.out hbel).alloc (Hid.out hbel).size _)
        clear hx HBW
        by_cases hk : ckey x = k.data.toList
        · have he : (x.k.toList == k.toList) = true := by rw [str_eq]; exact decide_eq_true hk
          rw [if_pos hk] at HT
          clear hk
          by_cases hh : x.h = true
          · rw [if_pos hh] at HT
            rw [hh] at hc1 HBN
            clear hok hh
            go_wp2
            exact ⟨⟨i + 1, by omega, by go_num, by rw [HT.out]; rfl, by rw [HT.out]; rfl, HBN.out⟩, by simp [intOf] <;> omega⟩
          · have hh : x.h = false := by simpa using hh
            rw [hh, if_neg (by simp)] at HT
            have hv : x.v = { data := #[] } := by
              simp only [okC, Bool.and_eq_true, hh, Bool.false_or, List.isEmpty_iff] at hok
              have h3 := hok.2.2
              rw [ByteArray.toList_eq] at h3
              exact ByteArray.ext (Array.toList_inj.1 (by rw [h3]))
            rw [hh] at hc1 HBN
            rw [hv] at hc2 HBN
            clear hok hh hv
            go_wp2
            exact ⟨⟨i + 1, by omega, by go_num, by rw [HT.out]; rfl, by rw [HT.out]; rfl, HBN.out⟩, by simp [intOf] <;> omega⟩
        · have he : (x.k.toList == k.toList) = false := by rw [str_eq]; exact decide_eq_false hk
          rw [if_neg hk] at HT
          clear hk hok
          go_wp2
          exact ⟨⟨i + 1, by omega, by go_num, by rw [HT.out], by rw [HT.out], HBN.out⟩, by simp [intOf] <;> omega⟩
      · have HO := Lib.hid (show lastV k (get D k) (C.take i) = get (app D C) k by
          rw [get_app k C (rt_iff.1 HXY.out.1).1, List.take_of_length_le (by rw [← HN'.out]; omega)])
        rw [HO.out]
        have HSW := Lib.hid (HS3.out.below (Hid.out hbel))
        clear HO hbel
        have HS := Lib.hid (rt_app HXY.out.1 HXY.out.2)
        go_wp2_with fail
        go_at_call 12
        refine (getS HSW.out k (by omega)).mono ?_
        rw [HS.out, getV_true]
        rintro e w4 ⟨rfl, hb4⟩
        have HB4 := Lib.hid (HBW.out.trans (hb4.mono HBW.out.size))
        have HS4 := Lib.hid (HSW.out.below hb4)
        clear hb4 HSW
        go_wp2_with fail
        go_at_call 18
        refine (checkS HS4.out (by omega)).mono ?_
        rw [HS.out]
        rintro e w5 ⟨he, hb5⟩
        have he' : e = .returned (.int .i64 0) := he
        subst he'
        have HB5 := Lib.hid (HB4.out.trans (hb5.mono HB4.out.size))
        clear hb5 he
        go_wp2
        go_ret
        exact ⟨rfl, HB5.out⟩
end Go.Proofs.Ytpchkmjpmlbbgaa.It
