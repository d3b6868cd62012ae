/- The walk of the law ItemFew. -/
import Derived.Test.YtpchkmjpmlbbgaaItW
namespace Go.Proofs.Ytpchkmjpmlbbgaa.It
set_option linter.unusedVariables false
open Go.ChangeShapes Go.WideShapes Go.ChangeAt Go.RowKit
open Ar Rg St
open BigFrame
set_option maxRecDepth 100000 in
set_option maxHeartbeats 2000000 in
theorem itemFew_walk (w : World) (X : List Itm) (A : Option Addr) (n c : Nat) (Y : List Itm) (A' : Option Addr) (m c' : Nat) (hl : n ≤ 1048576) (hX : SlI w A n c X) (hl' : m ≤ 1048576) (hY : SlI w A' m c' Y) :
    Calls Try.prog 9 #[.slice A n c, .slice A' m c'] w fun e w' => e = .returned (.bool true) ∧ Below w.heap.size w w' := by
  have HX := Lib.hid hX
  have HY := Lib.hid hY
  have e4 : er false = 4 := rfl
  have e0 : er true = 0 := rfl
  clear hX hY
  have hq : (rt X && rt Y) = false ∨ (rt X && rt Y) = true := by cases (rt X && rt Y) <;> simp
  go_enter Try.func9, Try.ntmps9
  go_wp2_with fail
  go_at_call 16
  refine (lives_true _).mono ?_
  rintro e w1 ⟨rfl, hb1⟩
  have HB1 := Lib.hid hb1
  clear hb1
  rcases hq with hq | hq
  · have HQ := Lib.hid hq
    clear hq
    go_wp2_with fail
    go_at_call 22
    refine (diffS (HX.out.below HB1.out) (HY.out.below HB1.out) (by omega) (by omega)).mono ?_
    rw [HQ.out]
    rintro e w2 ⟨A2, n2, c2, he, hs2, hb2⟩
    have he' : e = .returned (.tuple #[.slice A2 n2 c2, .int .i64 (er false)]) := he
    subst he'
    have HS2 := Lib.hid (show SlC w2 A2 n2 c2 [] from hs2)
    have HB2 := Lib.hid (HB1.out.trans (hb2.mono HB1.out.size))
    clear hb2 hs2 he
    go_wp2
    go_ret
    exact ⟨rfl, HB2.out⟩
  · have HQ := Lib.hid hq
    have hxy : rt X = true ∧ rt Y = true := by simpa using hq
    have HXY := Lib.hid hxy
    clear hq hxy
    go_wp2_with fail
    go_at_call 22
    refine (diffS (HX.out.below HB1.out) (HY.out.below HB1.out) (by omega) (by omega)).mono ?_
    rw [HQ.out]
    rintro e w2 ⟨A2, n2, c2, he, hs2, hb2⟩
    have he' : e = .returned (.tuple #[.slice A2 n2 c2, .int .i64 (er true)]) := he
    subst he'
    have HS2 := Lib.hid (show SlC w2 A2 n2 c2 (dif X Y) from hs2)
    have HB2 := Lib.hid (HB1.out.trans (hb2.mono HB1.out.size))
    clear hb2 hs2 he
    have hn2 : n2 ≤ n + m := by have h1 := HS2.out.1; have h2 := dif_len X Y; have h3 := HX.out.1; have h4 := HY.out.1; omega
    clear HB1
    go_wp2_with fail
    go_loopw [23] (fun v wr => ∃ i : Nat, i ≤ n2 ∧ v = .int .i64 i ∧ Hid (Below w2.heap.size w2 wr)) (fun v _ => n2 - (intOf v).toNat)
    case atStart => exact ⟨0, Nat.zero_le _, by go_num, Below.refl _ _⟩
    case round =>
      obtain ⟨i, hi, rfl, hbel⟩ := hrel
      by_cases hlt : i < n2
      · obtain ⟨x, b, o, hx, hAe, hbs, hc0, hc1, hc2⟩ := (HS2.out.below (Hid.out hbel)).at_ hlt
        subst hAe
        have hmem := List.mem_of_getElem? hx
        have hrc : rc [x] = true := rc_iff.2 fun y hy => by
          simp at hy; subst hy
          exact rc_iff.1 (rc_dif HXY.out.1 HXY.out.2) _ hmem
        have hne := dif_few (rt_iff.1 HXY.out.1).1 (rt_iff.1 HXY.out.2).1 hmem
        have HNE := Lib.hid (sm_no hne)
        have HRC := Lib.hid hrc
        have hd0 : (wr.alloc (.cells #[.string x.k, .bool x.h, .string x.v] 39)).cell? ⟨wr.heap.size, 0, none⟩ = some (.string x.k) := by simp
        have hd1 : (wr.alloc (.cells #[.string x.k, .bool x.h, .string x.v] 39)).cell? ⟨wr.heap.size, 1, none⟩ = some (.bool x.h) := by simp
        have hd2 : (wr.alloc (.cells #[.string x.k, .bool x.h, .string x.v] 39)).cell? ⟨wr.heap.size, 2, none⟩ = some (.string x.v) := by simp
        have hbr : Below w2.heap.size w2 (wr.alloc (.cells #[.string x.k, .bool x.h, .string x.v] 39)) := (Hid.out hbel).alloc (Hid.out hbel).size _
        have HBA := Lib.hid (show Below w2.heap.size w2 ((wr.alloc (.cells #[.string x.k, .bool x.h, .string x.v] 39)).alloc (.cells #[.string x.k, .bool x.h, .string x.v] 39)) from hbr.alloc hbr.size _)
        have HBA2 := Lib.hid (HB2.out.trans (HBA.out.mono HB2.out.size))
        have HONE := Lib.hid (show SlC ((wr.alloc (.cells #[.string x.k, .bool x.h, .string x.v] 39)).alloc (.cells #[.string x.k, .bool x.h, .string x.v] 39)) (some ⟨wr.heap.size + 1, 0, none⟩) 1 1 [x] from by
          have := SlC.one (wr.alloc (.cells #[.string x.k, .bool x.h, .string x.v] 39)) x 39
          simpa [Sc.enc] using this)
        clear hx hmem hrc hne hbr
        go_wp2_with fail
        go_at_call 20
        refine (applyS (HX.out.below HBA2.out) HONE.out (by omega) (by omega)).mono ?_
        rw [HXY.out.1, HRC.out]
        rintro e w3 ⟨A3, n3, c3, he, hs3, hb3⟩
        have he' : e = .returned (.tuple #[.slice A3 n3 c3, .int .i64 (er true)]) := he
        subst he'
        have HS3 := Lib.hid (show SlI w3 A3 n3 c3 (app X [x]) from hs3)
        have HB3 := Lib.hid (HBA.out.trans (hb3.mono HBA.out.size))
        have HB3w := Lib.hid (HB2.out.trans (HB3.out.mono HB2.out.size))
        have hn3 : n3 ≤ 1048577 := by have h1 := HS3.out.1; have h2 := app_len [x] X; have h3 := HX.out.1; simp at h2; omega
        clear hb3 hs3 he HBA HBA2 HONE hbel hd0 hd1 hd2 hc0 hc1 hc2
        go_wp2_with fail
        go_at_call 17
        refine (sameS HS3.out (HX.out.below HB3w.out) (by omega)).mono ?_
        rw [HNE.out]
        rintro e w4 ⟨rfl, hb4⟩
        have HB4 := Lib.hid (HB3.out.trans (hb4.mono HB3.out.size))
        clear hb4
        go_wp2
        exact ⟨⟨i + 1, by omega, by go_num, HB4.out⟩, by simp [intOf] <;> omega⟩
      · have hle : decide ((n2 : Int) ≤ (n : Int) + (m : Int)) = true := by rw [decide_eq_true_iff]; omega
        have HB4 := Lib.hid (HB2.out.trans ((Hid.out hbel).mono HB2.out.size))
        go_wp2
        go_ret
        exact ⟨rfl, HB4.out⟩
end Go.Proofs.Ytpchkmjpmlbbgaa.It
