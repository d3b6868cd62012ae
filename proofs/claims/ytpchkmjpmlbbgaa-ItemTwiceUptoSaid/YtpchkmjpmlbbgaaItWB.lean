/- The walk of the law ItemTwice. -/
import Derived.Test.YtpchkmjpmlbbgaaItW
namespace Go.Proofs.Ytpchkmjpmlbbgaa.It
set_option linter.unusedVariables false
open Go.ChangeShapes Go.WideShapes Go.ChangeAt Go.RowKit
open Ar Rg St
open BigFrame
set_option maxRecDepth 100000 in
set_option maxHeartbeats 2000000 in
theorem itemTwice_walk (w : World) (D : List Itm) (A : Option Addr) (n c : Nat) (x : Ch) (hl : n ≤ 1048576) (hD : SlI w A n c D) :
    Calls Try.prog 11 #[.slice A n c, .agg #[.string x.k, .bool x.h, .string x.v]] w fun e w' => e = .returned (.bool true) ∧ Below w.heap.size w w' := by
  have e4 : er false = 4 := rfl
  have e0 : er true = 0 := rfl
  have hd0 : (w.alloc (.cells #[.string x.k, .bool x.h, .string x.v] 39)).cell? ⟨w.heap.size, 0, none⟩ = some (.string x.k) := by simp
  have hd1 : (w.alloc (.cells #[.string x.k, .bool x.h, .string x.v] 39)).cell? ⟨w.heap.size, 1, none⟩ = some (.bool x.h) := by simp
  have hd2 : (w.alloc (.cells #[.string x.k, .bool x.h, .string x.v] 39)).cell? ⟨w.heap.size, 2, none⟩ = some (.string x.v) := by simp
  have HW := Lib.hid (show Below w.heap.size w (w.alloc (.cells #[.string x.k, .bool x.h, .string x.v] 39)) from (Below.refl _ _).alloc (Nat.le_refl _) _)
  have hsz : w.heap.size < (w.alloc (.cells #[.string x.k, .bool x.h, .string x.v] 39)).heap.size := by simp
  have HD := Lib.hid (show SlI (w.alloc (.cells #[.string x.k, .bool x.h, .string x.v] 39)) A n c D from hD.below ((Below.refl _ _).alloc (Nat.le_refl _) _))
  clear hD
  have hq : (rt D && rc [x]) = false ∨ (rt D && rc [x]) = true := by cases (rt D && rc [x]) <;> simp
  go_enter Try.func11, Try.ntmps11
  go_wp2_with fail
  generalize World.alloc _ _ = W0 at *
  go_at_call 16
  refine (lives_true _).mono ?_
  rintro e w1 ⟨rfl, hb1⟩
  have HB1 := Lib.hid hb1
  clear hb1
  have hd01 : w1.cell? ⟨w.heap.size, 0, none⟩ = some (.string x.k) := (HB1.out.cell (p := ⟨w.heap.size, 0, none⟩) hsz).trans hd0
  have hd11 : w1.cell? ⟨w.heap.size, 1, none⟩ = some (.bool x.h) := (HB1.out.cell (p := ⟨w.heap.size, 1, none⟩) hsz).trans hd1
  have hd21 : w1.cell? ⟨w.heap.size, 2, none⟩ = some (.string x.v) := (HB1.out.cell (p := ⟨w.heap.size, 2, none⟩) hsz).trans hd2
  rcases hq with hq | hq
  · have HQ := Lib.hid hq
    clear hq
    go_wp2_with fail
    go_at_call 20
    have hba2 : Below w1.heap.size w1 (w1.alloc (.cells (Sc.enc x).toArray 39)) := (Below.refl _ _).alloc (Nat.le_refl _) _
    have HBA2 := Lib.hid (HB1.out.trans (hba2.mono HB1.out.size))
    refine (applyS ((HD.out.below HB1.out).below hba2) (SlC.one w1 x _) (by omega) (by omega)).mono ?_
    rw [HQ.out]
    rintro e w2 ⟨A2, n2, c2, he, hs2, hb2⟩
    have he' : e = .returned (.tuple #[.slice A2 n2 c2, .int .i64 (er false)]) := he
    subst he'
    have HS2 := Lib.hid (show SlI w2 A2 n2 c2 [] from hs2)
    have HB2 := Lib.hid (HBA2.out.trans (hb2.mono HBA2.out.size))
    clear hb2 hs2 he HBA2 hba2
    obtain rfl : n2 = 0 := HS2.out.1
    go_wp2
    go_ret
    exact ⟨rfl, HW.out.trans (HB2.out.mono HW.out.size)⟩
  · have HQ := Lib.hid hq
    have hxy : rt D = true ∧ rc [x] = true := by simpa using hq
    have HXY := Lib.hid hxy
    have HN := Lib.hid HD.out.1
    clear hq hxy
    go_wp2_with fail
    go_at_call 20
    have hba2 : Below w1.heap.size w1 (w1.alloc (.cells (Sc.enc x).toArray 39)) := (Below.refl _ _).alloc (Nat.le_refl _) _
    have HBA2 := Lib.hid (HB1.out.trans (hba2.mono HB1.out.size))
    refine (applyS ((HD.out.below HB1.out).below hba2) (SlC.one w1 x _) (by omega) (by omega)).mono ?_
    rw [HQ.out]
    rintro e w2 ⟨A2, n2, c2, he, hs2, hb2⟩
    have he' : e = .returned (.tuple #[.slice A2 n2 c2, .int .i64 (er true)]) := he
    subst he'
    have HS2 := Lib.hid (show SlI w2 A2 n2 c2 (app D [x]) from hs2)
    have HB2 := Lib.hid (HBA2.out.trans (hb2.mono HBA2.out.size))
    clear hb2 hs2 he HBA2 hba2
    have hd02 : w2.cell? ⟨w.heap.size, 0, none⟩ = some (.string x.k) := (HB2.out.cell (p := ⟨w.heap.size, 0, none⟩) hsz).trans hd0
    have hd12 : w2.cell? ⟨w.heap.size, 1, none⟩ = some (.bool x.h) := (HB2.out.cell (p := ⟨w.heap.size, 1, none⟩) hsz).trans hd1
    have hd22 : w2.cell? ⟨w.heap.size, 2, none⟩ = some (.string x.v) := (HB2.out.cell (p := ⟨w.heap.size, 2, none⟩) hsz).trans hd2
    have hn2 : n2 ≤ 1048577 := by have h1 := HS2.out.1; have h2 := app_len [x] D; have h3 := HN.out; simp at h2; omega
    clear hd01 hd11 hd21
    go_wp2_with fail
    go_at_call 20
    have hba3 : Below w2.heap.size w2 (w2.alloc (.cells (Sc.enc x).toArray 39)) := (Below.refl _ _).alloc (Nat.le_refl _) _
    have HBA3 := Lib.hid (HB2.out.trans (hba3.mono HB2.out.size))
    refine (applyS (HS2.out.below hba3) (SlC.one w2 x _) (by omega) (by omega)).mono ?_
    rw [rt_app HXY.out.1 HXY.out.2, HXY.out.2, app_twice (rt_iff.1 HXY.out.1).1]
    rintro e w3 ⟨A3, n3, c3, he, hs3, hb3⟩
    have he' : e = .returned (.tuple #[.slice A3 n3 c3, .int .i64 (er true)]) := he
    subst he'
    have HS3 := Lib.hid (show SlI w3 A3 n3 c3 (app D [x]) from hs3)
    have HB3 := Lib.hid (HBA3.out.trans (hb3.mono HBA3.out.size))
    have HS2' := Lib.hid ((HS2.out.below hba3).below hb3)
    clear hb3 hs3 he HBA3 hba3
    have hn3 : n3 ≤ 1048577 := by have h1 := HS3.out.1; have h2 := HS2.out.1; omega
    clear HS2
    go_wp2_with fail
    go_at_call 20
    refine (applyS ((HD.out.below HB3.out)) (SlC.nil _) (by omega) (by omega)).mono ?_
    rw [HXY.out.1, show rc [] = true from rfl, app_nil]
    rintro e w4 ⟨A4, n4, c4, he, hs4, hb4⟩
    have he' : e = .returned (.tuple #[.slice A4 n4 c4, .int .i64 (er true)]) := he
    subst he'
    have HS4 := Lib.hid (show SlI w4 A4 n4 c4 D from hs4)
    have HB4 := Lib.hid (HB3.out.trans (hb4.mono HB3.out.size))
    have HS2 := Lib.hid (HS2'.out.below hb4)
    have HS3' := Lib.hid (HS3.out.below hb4)
    clear hb4 hs4 he HS2' HS3
    have hn4 : n4 ≤ 1048577 := by have h1 := HS4.out.1; have h3 := HN.out; omega
    go_wp2_with fail
    go_at_call 17
    refine (sameS HS2.out HS3'.out (by omega)).mono ?_
    rw [sm_iff.2 rfl]
    rintro e w5 ⟨rfl, hb5⟩
    have HS4' := Lib.hid (HS4.out.below hb5)
    have HB5 := Lib.hid (HB4.out.trans (hb5.mono HB4.out.size))
    clear hb5
    go_wp2_with fail
    go_at_call 17
    refine (sameS HS4'.out (HD.out.below HB5.out) (by omega)).mono ?_
    rw [sm_iff.2 rfl]
    rintro e w6 ⟨rfl, hb6⟩
    have HB6 := Lib.hid (HB5.out.trans (hb6.mono HB5.out.size))
    clear hb6
    go_wp2
    go_ret
    exact ⟨rfl, HW.out.trans (HB6.out.mono HW.out.size)⟩
end Go.Proofs.Ytpchkmjpmlbbgaa.It
