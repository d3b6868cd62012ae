/- The walk of the law file's lives (heap). -/
import Derived.Test.YtlpejbbmemhloaaGreatDoorLs
import Derived.Test.YtlpejbbmemhloaaGreatDoorNdC
import Derived.Test.YtlpejbbmemhloaaGreatDoorShaB
import Derived.Test.YtlpejbbmemhloaaGreatDoorGb3
import Derived.Test.YtlpejbbmemhloaaGreatDoorRgX
import Derived.Deep.Slices
import Derived.ChangeArms
import Derived.SizedLaws
import Derived.Lib.SmallJoins
import Derived.OpenShut
import Derived.FnData
import GoSem.ClaimJoined
import Derived.LaidMore
namespace Go.Proofs.YtlpejbbmemhloaaGreatDoor.Hp
set_option linter.unusedVariables false
set_option linter.unusedSimpArgs false
set_option maxRecDepth 100000
open Go.ChangeShapes Go.WideShapes Go.ChangeAt Go.RowKit
open Rg
open Ar Nd
open BigFrame
/-- a heap that the call made, in the variable of block g -/
def HVar (w W : World) (g : Nat) (A : Option Addr) (n c : Nat) (L : List Ce) : Prop := W.heap[g]? = some (.cells #[.int .u32 16, .slice A n c] 25 (0, 0)) ∧ MkC w W (.slice A n c) L ∧ w.heap.size ≤ g
/-- a kid that the call made, in the variable of block g -/
def KVar (w W : World) (g : Nat) (y : Kd) : Prop := W.heap[g]? = some (.cells (ecK y).toArray 45 (0, 0)) ∧ w.heap.size ≤ g
theorem HVar.go {w W W' : World} {g n c : Nat} {A : Option Addr} {L : List Ce} (h : HVar w W g A n c L) (hb : Below W.heap.size W W') : HVar w W' g A n c L := ⟨(hb.block _ (row_lt h.1)).trans h.1, h.2.1.go hb, h.2.2⟩
theorem KVar.go {w W W' : World} {g : Nat} {y : Kd} (h : KVar w W g y) (hb : Below W.heap.size W W') : KVar w W' g y := ⟨(hb.block _ (row_lt h.1)).trans h.1, h.2⟩
/-- a heap and a kid in two new variables -/
theorem new_vars {w w2 : World} {A : Option Addr} {n c : Nat} {L : List Ce} (y : Kd) (h : MkC w w2 (.slice A n c) L) (hw : w.heap.size ≤ w2.heap.size) :
    HVar w (((w2.alloc (.cells #[.int .u32 16, .slice A n c] 25)).alloc (.cells zKd 45)).setRow (w2.heap.size + 1) (ecK y).toArray) w2.heap.size A n c L ∧
    KVar w (((w2.alloc (.cells #[.int .u32 16, .slice A n c] 25)).alloc (.cells zKd 45)).setRow (w2.heap.size + 1) (ecK y).toArray) (w2.heap.size + 1) y ∧
    Below w2.heap.size w2 (((w2.alloc (.cells #[.int .u32 16, .slice A n c] 25)).alloc (.cells zKd 45)).setRow (w2.heap.size + 1) (ecK y).toArray) := by
  obtain ⟨R1, R2, S2, Z2⟩ := two_new w2 #[.int .u32 16, .slice A n c] zKd 25 45
  have hb : Below w2.heap.size w2 (((w2.alloc (.cells #[.int .u32 16, .slice A n c] 25)).alloc (.cells zKd 45)).setRow (w2.heap.size + 1) (ecK y).toArray) := S2.trans (below_of_grown (grown_row _ _ _) (by rw [Z2]; omega) (by omega))
  exact ⟨⟨row_other (grown_row _ _ _) R1 (by omega), h.go hb, hw⟩, ⟨setRow_at R2, by omega⟩, hb⟩
/-- what stands behind the second Put -/
def LvR (w : World) (g1 : Nat) (y : Kd) (s4 s5 : Value) (wx : World) : Prop :=
  ∃ (g4 : Nat) (A : Option Addr) (n c : Nat), s4 = .pointer (some ⟨g4, 0, none⟩) ∧ s5 = .int .i64 0 ∧ HVar w wx g1 A n c H1 ∧ KVar w wx (g1 + 1) y ∧ KVar w wx g4 y ∧ Below w.heap.size w wx ∧ g1 + 1 < g4
/-- the variables of lives -/
structure Lv (w W : World) (g1 g4 g6 : Nat) (A : Option Addr) (n c : Nat) (L : List Ce) (x2 x4 x6 : Kd) : Prop where
  v1 : HVar w W g1 A n c L
  v2 : KVar w W (g1 + 1) x2
  v4 : KVar w W g4 x4
  v6 : KVar w W g6 x6
  b : Below w.heap.size w W
  ne4 : g4 ≠ g1
  ne6 : g6 ≠ g1
theorem Lv.go {w W W' : World} {g1 g4 g6 n c : Nat} {A : Option Addr} {L : List Ce} {x2 x4 x6 : Kd} (h : Lv w W g1 g4 g6 A n c L x2 x4 x6) (hb : Below W.heap.size W W') : Lv w W' g1 g4 g6 A n c L x2 x4 x6 :=
  ⟨h.v1.go hb, h.v2.go hb, h.v4.go hb, h.v6.go hb, h.b.trans (hb.mono h.b.size), h.ne4, h.ne6⟩
theorem KVar.num {w W : World} {g : Nat} {y : Kd} (h : KVar w W g y) : W.cell? ⟨g, 1, none⟩ = some (.int .u32 y.n) := (cell_of_row _ _ 1 _ _ _ h.1).trans (by unfold ecK; rfl)
/-- the heap's variable stored over -/
theorem Lv.put {w W : World} {g1 g4 g6 n c n' c' : Nat} {A A' : Option Addr} {L L' : List Ce} {x2 x4 x6 : Kd} (h : Lv w W g1 g4 g6 A n c L x2 x4 x6) (hm : MkC w W (.slice A' n' c') L') :
    Lv w ((W.setCell ⟨g1, 0, none⟩ (.int .u32 16)).setCell ⟨g1, 1, none⟩ (.slice A' n' c')) g1 g4 g6 A' n' c' L' x2 x4 x6 := by
  have r1 := row_set (cs := [.int .u32 16, .slice A n c]) (i := 0) (u := .int .u32 16) h.v1.1
  have r2 := row_set (cs := [.int .u32 16, .slice A n c]) (i := 1) (u := .slice A' n' c') r1
  have hgg := grown_trans (grown_cell W g1 0 (.int .u32 16)) (grown_cell (W.setCell ⟨g1, 0, none⟩ (.int .u32 16)) g1 1 (.slice A' n' c'))
  exact ⟨⟨r2, MkC.two hm h.v1.1 h.v1.2.2, h.v1.2.2⟩, ⟨row_other hgg h.v2.1 (by omega), h.v2.2⟩, ⟨row_other hgg h.v4.1 h.ne4, h.v4.2⟩, ⟨row_other hgg h.v6.1 h.ne6, h.v6.2⟩, h.b.trans (below_of_grown hgg h.b.size h.v1.2.2), h.ne4, h.ne6⟩
set_option maxHeartbeats 8000000 in
theorem lives_h {tK tS : TypeId} {w : World} (hk : Kc tK tS w.heap.size w) : Calls Tryz.prog 13 #[] w fun e w' => e = .returned (.bool true) ∧ Below w.heap.size w w' := by
  have HK := Lib.hid hk
  clear hk
  go_enter Tryz.func13, Tryz.ntmps13
  go_wp2_with fail
  refine (leaf_a w).mono ?_
  rintro e w1 ⟨cs, rfl, hb1, hn1⟩
  go_wp2_with fail
  refine (put_0 HK.out hb1 cs hn1).mono ?_
  rintro e w2 ⟨A2, n2, c2, rfl, hm2⟩
  have HB2 := Lib.hid (hb1.trans (hm2.2.mono hb1.size))
  have HM2 := Lib.hid (hm2.since hb1)
  clear hb1 hn1 hm2
  obtain ⟨y2, hy2⟩ : ∃ y2 : Kd, (⟨⟨#[]⟩, 2, hsD lfD⟩ : Kd) = y2 := ⟨_, rfl⟩
  rw [hy2]
  have HSZ2 := Lib.hid (show zKd.size = (ecK y2).toArray.size from (show zKd.size = 34 from rfl).trans (ecK_sz y2))
  have HR2 := Lib.hid (two_new w2 #[.int .u32 16, .slice A2 n2 c2] zKd 25 45).2.1
  have HY2 := Lib.hid hy2
  clear hy2
  obtain ⟨V1, V2, V3⟩ := new_vars y2 (w := w) (HM2.out) (HB2.out.size)
  have HV1 := Lib.hid V1
  have HV2 := Lib.hid V2
  have HV3 := Lib.hid (HB2.out.trans (V3.mono HB2.out.size))
  clear V1 V2 V3
  go_wp2_with (refine wpList_store_row rfl 45 (.tmp 2) (.tmp 23) rfl (w2.heap.size + 1) (ecK y2).toArray rfl rfl 45 _ HR2.out (infoKa y2) HSZ2.out (all_of_one (ecK_one y2)) ?_)
  change Code.wp _ _ _ _ (((w2.alloc (.cells #[.int .u32 16, .slice A2 n2 c2] 25)).alloc (.cells zKd 45)).setRow (w2.heap.size + 1) (ecK y2).toArray)
  generalize ((w2.alloc (.cells #[.int .u32 16, .slice A2 n2 c2] 25)).alloc (.cells zKd 45)).setRow (w2.heap.size + 1) (ecK y2).toArray = w3 at *
  generalize w2.heap.size = g1 at *
  clear HSZ2 HR2 HM2 HB2
  go_cut [4, 5] from 18 to 150 (fun s4 s5 wx => Hid (LvR w g1 y2 s4 s5 wx))
  case first =>
    rename_i JJ KK hJJ hKK
    refine wp_region_X (Till 2 (fun w' : World => w'.heap[g1]? = some (.cells #[.int .u32 16, .slice A2 n2 c2] 25 (0, 0)))) (by kernel_rfl) ?_
    have HV1 := Lib.hid (HV1.out.go (show Below w3.heap.size w3 w3.drew from (Below.refl _ _).drew))
    have HV2 := Lib.hid (HV2.out.go (show Below w3.heap.size w3 w3.drew from (Below.refl _ _).drew))
    have HB := Lib.hid (HV3.out.trans ((show Below w3.heap.size w3 w3.drew from (Below.refl _ _).drew).mono HV3.out.size))
    clear HV3
    generalize w3.drew = w4 at *
    refine take_X 0 26 (.agg #[.int .u32 16, .slice A2 n2 c2]) rfl (by rfl) (by kernel_rfl) (by kernel_rfl) (by kernel_rfl) (by kernel_rfl) (fun _ _ _ h => h) (Till.mono (by decide)) (Or.inl ⟨by rfl, fun w' hB => row_runO 25 rfl g1 rfl _ _ (0, 0) _ (Till.bef hB (by kernel_rfl)) Tryz.underlying25 rfl (by kernel_rfl)⟩) (fun _ => HV1.out.1) ?_
    try simp only [Act.put, List.setIfInBounds_toArray, List.set_cons_zero, List.set_cons_succ]
    refine two_X 1 7 rfl rfl (by kernel_rfl) (by rfl) (by rfl) (fun K hK => ?_) (fun K hK => ?_)
    · skip
      go_wp2_with fail
      refine (leaf_a _).mono ?_
      rintro e' w5 ⟨cs, rfl, hb, hn⟩
      have HV1 := Lib.hid (HV1.out.go hb)
      have HV2 := Lib.hid (HV2.out.go hb)
      have HB := Lib.hid (HB.out.trans (hb.mono HB.out.size))
      have HN := Lib.hid hn
      clear hb hn
      refine hK.out _ _ (fun _ => HV1.out.1) ?_
      clear hK K
      try simp only [Act.put, List.setIfInBounds_toArray, List.set_cons_zero, List.set_cons_succ]
      refine two_X 2 7 rfl rfl (by kernel_rfl) (by rfl) (by rfl) (fun K hK => ?_) (fun K hK => ?_)
      · skip
        have HP := Lib.hid (put_1 HK.out HB.out cs HN.out A2 n2 c2 (HIn.of_mk HV1.out.2.1 (by decide) sm1))
        rw [HY2.out] at HP
        go_wp2_with fail
        refine HP.out.mono ?_
        rintro e' w6 ⟨A6, n6, c6, rfl, hm⟩
        have HM := Lib.hid (hm.since HB.out)
        have hb := hm.2
        have HV1 := Lib.hid (HV1.out.go hb)
        have HV2 := Lib.hid (HV2.out.go hb)
        have HB := Lib.hid (HB.out.trans (hb.mono HB.out.size))
        clear hb hm HP HN
        refine hK.out _ _ (fun h => absurd h (by decide)) ?_
        clear hK K
        try simp only [Act.put, List.setIfInBounds_toArray, List.set_cons_zero, List.set_cons_succ]
        refine take_X 3 25 (.tuple #[.agg #[.int .u32 16, .slice A6 n6 c6], .agg (ecK y2).toArray, .int .i64 0]) rfl (by rfl) (by kernel_rfl) (by kernel_rfl) (by kernel_rfl) (by kernel_rfl) (fun _ _ _ h => h) (Till.mono (by decide)) (Or.inl ⟨by rfl, fun w' _ => by go_simp⟩) (fun h => absurd h (by decide)) ?_
        try simp only [Act.put, List.setIfInBounds_toArray, List.set_cons_zero, List.set_cons_succ]
        refine take_X 4 29 (.agg #[.int .u32 16, .slice A6 n6 c6]) rfl (by rfl) (by kernel_rfl) (by kernel_rfl) (by kernel_rfl) (by kernel_rfl) (fun _ _ _ h => h) (Till.mono (by decide)) (Or.inl ⟨by rfl, fun w' _ => by go_simp⟩) (fun h => absurd h (by decide)) ?_
        try simp only [Act.put, List.setIfInBounds_toArray, List.set_cons_zero, List.set_cons_succ]
        refine take_X 5 30 (.agg (ecK y2).toArray) rfl (by rfl) (by kernel_rfl) (by kernel_rfl) (by kernel_rfl) (by kernel_rfl) (fun _ _ _ h => h) (Till.mono (by decide)) (Or.inl ⟨by rfl, fun w' _ => by go_simp⟩) (fun h => absurd h (by decide)) ?_
        try simp only [Act.put, List.setIfInBounds_toArray, List.set_cons_zero, List.set_cons_succ]
        refine take_X 6 31 (.int .i64 0) rfl (by rfl) (by kernel_rfl) (by kernel_rfl) (by kernel_rfl) (by kernel_rfl) (fun _ _ _ h => h) (Till.mono (by decide)) (Or.inl ⟨by rfl, fun w' _ => by go_simp⟩) (fun h => absurd h (by decide)) ?_
        try simp only [Act.put, List.setIfInBounds_toArray, List.set_cons_zero, List.set_cons_succ]
        refine only_X 7 rfl (by kernel_rfl) (by rfl) (fun K hK => ?_)
        have hb : Below w6.heap.size w6 (w6.alloc (.cells zKd 45)) := (Below.refl _ _).alloc (Nat.le_refl _) _
        have HX := Lib.hid (heap_alloc_new w6 (.cells zKd 45))
        have HG := Lib.hid (show g1 + 1 < w6.heap.size from row_lt HV2.out.1)
        have HGW := Lib.hid (show w.heap.size ≤ w6.heap.size from HB.out.size)
        have HM := Lib.hid (HM.out.go hb)
        have HV1 := Lib.hid (HV1.out.go hb)
        have HV2 := Lib.hid (HV2.out.go hb)
        have HB := Lib.hid (HB.out.trans (hb.mono HB.out.size))
        clear hb
        go_simp
        generalize w6.alloc _ = w7 at *
        generalize w6.heap.size = g4 at *
        refine hK.out _ _ (fun h => absurd h (by decide)) ?_
        clear hK K
        try simp only [Act.put, List.setIfInBounds_toArray, List.set_cons_zero, List.set_cons_succ]
        refine only_X 8 rfl (by kernel_rfl) (by rfl) (fun K hK => ?_)
        have k0 := cell_of_row _ _ 0 _ _ _ HV1.out.1
        have k1 := cell_of_row _ _ 1 _ _ _ HV1.out.1
        simp only [List.getElem?_toArray, List.getElem?_cons_zero, List.getElem?_cons_succ] at k0 k1
        have f0 := frozen_of_row w7 g1 0 _ _ HV1.out.1
        have f1 := frozen_of_row w7 g1 1 _ _ HV1.out.1
        have l0 := row_lt HV1.out.1
        go_wp2_with fail
        have r1 := row_set (cs := [.int .u32 16, .slice A2 n2 c2]) (i := 0) (u := .int .u32 16) HV1.out.1
        have r2 : ((w7.setCell ⟨g1, 0, none⟩ (.int .u32 16)).setCell ⟨g1, 1, none⟩ (.slice A6 n6 c6)).heap[g1]? = some (.cells #[.int .u32 16, .slice A6 n6 c6] 25 (0, 0)) := row_set (cs := [.int .u32 16, .slice A2 n2 c2]) (i := 1) (u := .slice A6 n6 c6) r1
        have hgg := grown_trans (grown_cell w7 g1 0 (.int .u32 16)) (grown_cell (w7.setCell ⟨g1, 0, none⟩ (.int .u32 16)) g1 1 (.slice A6 n6 c6))
        have HV2 := Lib.hid (show KVar w ((w7.setCell ⟨g1, 0, none⟩ (.int .u32 16)).setCell ⟨g1, 1, none⟩ (.slice A6 n6 c6)) (g1 + 1) y2 from ⟨row_other hgg HV2.out.1 (by omega), HV2.out.2⟩)
        have HX := Lib.hid (row_other hgg HX.out (by have := HG.out; omega))
        have HB := Lib.hid (HB.out.trans (below_of_grown hgg HB.out.size HV1.out.2.2))
        have HV1 := Lib.hid (show HVar w ((w7.setCell ⟨g1, 0, none⟩ (.int .u32 16)).setCell ⟨g1, 1, none⟩ (.slice A6 n6 c6)) g1 A6 n6 c6 H1 from ⟨r2, MkC.two HM.out HV1.out.1 HV1.out.2.2, HV1.out.2.2⟩)
        clear k0 k1 f0 f1 l0 r1 r2 hgg HM
        generalize (w7.setCell ⟨g1, 0, none⟩ (.int .u32 16)).setCell ⟨g1, 1, none⟩ (.slice A6 n6 c6) = w8 at *
        refine hK.out _ _ (fun h => absurd h (by decide)) ?_
        clear hK K
        try simp only [Act.put, List.setIfInBounds_toArray, List.set_cons_zero, List.set_cons_succ]
        refine only_X 9 rfl (by kernel_rfl) (by rfl) (fun K hK => ?_)
        refine wp_store_row 45 (.tmp 4) (.tmp 30) rfl g4 (ecK y2).toArray rfl rfl 45 _ HX.out (infoKa y2) ((show zKd.size = 34 from rfl).trans (ecK_sz y2)) (all_of_one (ecK_one y2)) ?_
        have hgg := grown_row w8 g4 (ecK y2).toArray
        have HL := Lib.hid (show LvR w g1 y2 (.pointer (some ⟨g4, 0, none⟩)) (.int .i64 0) (w8.setRow g4 (ecK y2).toArray) from ⟨g4, A6, n6, c6, rfl, rfl, ⟨row_other hgg HV1.out.1 (by have := HG.out; omega), HV1.out.2.1.grownQ hgg HGW.out (Mk.off HV1.out.2.1 HX.out (by decide)), HV1.out.2.2⟩, ⟨row_other hgg HV2.out.1 (by have := HG.out; omega), HV2.out.2⟩, ⟨setRow_at HX.out, HGW.out⟩, HB.out.trans (below_of_grown hgg HB.out.size HGW.out), HG.out⟩)
        clear hgg HX HV1 HV2 HB HG HGW
        generalize w8.setRow g4 (ecK y2).toArray = w9 at *
        refine hK.out _ _ (fun h => absurd h (by decide)) ?_
        clear hK K
        try simp only [Act.put, List.setIfInBounds_toArray, List.set_cons_zero, List.set_cons_succ]
        refine take_X 10 5 (.int .i64 0) rfl (by rfl) (by kernel_rfl) (by kernel_rfl) (by kernel_rfl) (by kernel_rfl) (fun _ _ _ h => h) (Till.mono (by decide)) (Or.inl ⟨by rfl, fun w' _ => by go_simp⟩) (fun h => absurd h (by decide)) ?_
        try simp only [Act.put, List.setIfInBounds_toArray, List.set_cons_zero, List.set_cons_succ]
        refine done_X (by kernel_rfl) ?_ _
        refine hKK _ _ (Met.intro (hJJ _ _ ?_))
        (repeat apply Exists.intro)
        exact ⟨HL.out, rfl⟩
      · skip
        have hb : Below w5.heap.size w5 (w5.alloc (.cells zKd 45)) := (Below.refl _ _).alloc (Nat.le_refl _) _
        have HX := Lib.hid (heap_alloc_new w5 (.cells zKd 45))
        have HG := Lib.hid (show g1 + 1 < w5.heap.size from row_lt HV2.out.1)
        have HGW := Lib.hid (show w.heap.size ≤ w5.heap.size from HB.out.size)
        have HV1 := Lib.hid (HV1.out.go hb)
        have HV2 := Lib.hid (HV2.out.go hb)
        have HN := Lib.hid (HN.out.below hb)
        have HB := Lib.hid (HB.out.trans (hb.mono HB.out.size))
        clear hb
        go_simp
        generalize w5.alloc _ = w6 at *
        generalize w5.heap.size = g4 at *
        refine hK.out _ _ (fun _ => HV1.out.1) ?_
        clear hK K
        try simp only [Act.put, List.setIfInBounds_toArray, List.set_cons_zero, List.set_cons_succ]
        refine only_X 2 rfl (by kernel_rfl) (by rfl) (fun K hK => ?_)
        have HP := Lib.hid (put_1 HK.out HB.out cs HN.out A2 n2 c2 (HIn.of_mk HV1.out.2.1 (by decide) sm1))
        rw [HY2.out] at HP
        go_wp2_with fail
        refine HP.out.mono ?_
        rintro e' w7 ⟨A6, n6, c6, rfl, hm⟩
        have HM := Lib.hid (hm.since HB.out)
        have hb := hm.2
        have HV1 := Lib.hid (HV1.out.go hb)
        have HV2 := Lib.hid (HV2.out.go hb)
        have HX := Lib.hid ((hb.block _ (row_lt HX.out)).trans HX.out)
        have HB := Lib.hid (HB.out.trans (hb.mono HB.out.size))
        clear hb hm HP HN
        refine hK.out _ _ (fun h => absurd h (by decide)) ?_
        clear hK K
        try simp only [Act.put, List.setIfInBounds_toArray, List.set_cons_zero, List.set_cons_succ]
        refine take_X 3 25 (.tuple #[.agg #[.int .u32 16, .slice A6 n6 c6], .agg (ecK y2).toArray, .int .i64 0]) rfl (by rfl) (by kernel_rfl) (by kernel_rfl) (by kernel_rfl) (by kernel_rfl) (fun _ _ _ h => h) (Till.mono (by decide)) (Or.inl ⟨by rfl, fun w' _ => by go_simp⟩) (fun h => absurd h (by decide)) ?_
        try simp only [Act.put, List.setIfInBounds_toArray, List.set_cons_zero, List.set_cons_succ]
        refine take_X 4 29 (.agg #[.int .u32 16, .slice A6 n6 c6]) rfl (by rfl) (by kernel_rfl) (by kernel_rfl) (by kernel_rfl) (by kernel_rfl) (fun _ _ _ h => h) (Till.mono (by decide)) (Or.inl ⟨by rfl, fun w' _ => by go_simp⟩) (fun h => absurd h (by decide)) ?_
        try simp only [Act.put, List.setIfInBounds_toArray, List.set_cons_zero, List.set_cons_succ]
        refine take_X 5 30 (.agg (ecK y2).toArray) rfl (by rfl) (by kernel_rfl) (by kernel_rfl) (by kernel_rfl) (by kernel_rfl) (fun _ _ _ h => h) (Till.mono (by decide)) (Or.inl ⟨by rfl, fun w' _ => by go_simp⟩) (fun h => absurd h (by decide)) ?_
        try simp only [Act.put, List.setIfInBounds_toArray, List.set_cons_zero, List.set_cons_succ]
        refine take_X 6 31 (.int .i64 0) rfl (by rfl) (by kernel_rfl) (by kernel_rfl) (by kernel_rfl) (by kernel_rfl) (fun _ _ _ h => h) (Till.mono (by decide)) (Or.inl ⟨by rfl, fun w' _ => by go_simp⟩) (fun h => absurd h (by decide)) ?_
        try simp only [Act.put, List.setIfInBounds_toArray, List.set_cons_zero, List.set_cons_succ]
        refine only_X 8 rfl (by kernel_rfl) (by rfl) (fun K hK => ?_)
        have k0 := cell_of_row _ _ 0 _ _ _ HV1.out.1
        have k1 := cell_of_row _ _ 1 _ _ _ HV1.out.1
        simp only [List.getElem?_toArray, List.getElem?_cons_zero, List.getElem?_cons_succ] at k0 k1
        have f0 := frozen_of_row w7 g1 0 _ _ HV1.out.1
        have f1 := frozen_of_row w7 g1 1 _ _ HV1.out.1
        have l0 := row_lt HV1.out.1
        go_wp2_with fail
        have r1 := row_set (cs := [.int .u32 16, .slice A2 n2 c2]) (i := 0) (u := .int .u32 16) HV1.out.1
        have r2 : ((w7.setCell ⟨g1, 0, none⟩ (.int .u32 16)).setCell ⟨g1, 1, none⟩ (.slice A6 n6 c6)).heap[g1]? = some (.cells #[.int .u32 16, .slice A6 n6 c6] 25 (0, 0)) := row_set (cs := [.int .u32 16, .slice A2 n2 c2]) (i := 1) (u := .slice A6 n6 c6) r1
        have hgg := grown_trans (grown_cell w7 g1 0 (.int .u32 16)) (grown_cell (w7.setCell ⟨g1, 0, none⟩ (.int .u32 16)) g1 1 (.slice A6 n6 c6))
        have HV2 := Lib.hid (show KVar w ((w7.setCell ⟨g1, 0, none⟩ (.int .u32 16)).setCell ⟨g1, 1, none⟩ (.slice A6 n6 c6)) (g1 + 1) y2 from ⟨row_other hgg HV2.out.1 (by omega), HV2.out.2⟩)
        have HX := Lib.hid (row_other hgg HX.out (by have := HG.out; omega))
        have HB := Lib.hid (HB.out.trans (below_of_grown hgg HB.out.size HV1.out.2.2))
        have HV1 := Lib.hid (show HVar w ((w7.setCell ⟨g1, 0, none⟩ (.int .u32 16)).setCell ⟨g1, 1, none⟩ (.slice A6 n6 c6)) g1 A6 n6 c6 H1 from ⟨r2, MkC.two HM.out HV1.out.1 HV1.out.2.2, HV1.out.2.2⟩)
        clear k0 k1 f0 f1 l0 r1 r2 hgg HM
        generalize (w7.setCell ⟨g1, 0, none⟩ (.int .u32 16)).setCell ⟨g1, 1, none⟩ (.slice A6 n6 c6) = w8 at *
        refine hK.out _ _ (fun h => absurd h (by decide)) ?_
        clear hK K
        try simp only [Act.put, List.setIfInBounds_toArray, List.set_cons_zero, List.set_cons_succ]
        refine only_X 9 rfl (by kernel_rfl) (by rfl) (fun K hK => ?_)
        refine wp_store_row 45 (.tmp 4) (.tmp 30) rfl g4 (ecK y2).toArray rfl rfl 45 _ HX.out (infoKa y2) ((show zKd.size = 34 from rfl).trans (ecK_sz y2)) (all_of_one (ecK_one y2)) ?_
        have hgg := grown_row w8 g4 (ecK y2).toArray
        have HL := Lib.hid (show LvR w g1 y2 (.pointer (some ⟨g4, 0, none⟩)) (.int .i64 0) (w8.setRow g4 (ecK y2).toArray) from ⟨g4, A6, n6, c6, rfl, rfl, ⟨row_other hgg HV1.out.1 (by have := HG.out; omega), HV1.out.2.1.grownQ hgg HGW.out (Mk.off HV1.out.2.1 HX.out (by decide)), HV1.out.2.2⟩, ⟨row_other hgg HV2.out.1 (by have := HG.out; omega), HV2.out.2⟩, ⟨setRow_at HX.out, HGW.out⟩, HB.out.trans (below_of_grown hgg HB.out.size HGW.out), HG.out⟩)
        clear hgg HX HV1 HV2 HB HG HGW
        generalize w8.setRow g4 (ecK y2).toArray = w9 at *
        refine hK.out _ _ (fun h => absurd h (by decide)) ?_
        clear hK K
        try simp only [Act.put, List.setIfInBounds_toArray, List.set_cons_zero, List.set_cons_succ]
        refine take_X 10 5 (.int .i64 0) rfl (by rfl) (by kernel_rfl) (by kernel_rfl) (by kernel_rfl) (by kernel_rfl) (fun _ _ _ h => h) (Till.mono (by decide)) (Or.inl ⟨by rfl, fun w' _ => by go_simp⟩) (fun h => absurd h (by decide)) ?_
        try simp only [Act.put, List.setIfInBounds_toArray, List.set_cons_zero, List.set_cons_succ]
        refine done_X (by kernel_rfl) ?_ _
        refine hKK _ _ (Met.intro (hJJ _ _ ?_))
        (repeat apply Exists.intro)
        exact ⟨HL.out, rfl⟩
    · skip
      have hb : Below w4.heap.size w4 (w4.alloc (.cells zKd 45)) := (Below.refl _ _).alloc (Nat.le_refl _) _
      have HX := Lib.hid (heap_alloc_new w4 (.cells zKd 45))
      have HG := Lib.hid (show g1 + 1 < w4.heap.size from row_lt HV2.out.1)
      have HGW := Lib.hid (show w.heap.size ≤ w4.heap.size from HB.out.size)
      have HV1 := Lib.hid (HV1.out.go hb)
      have HV2 := Lib.hid (HV2.out.go hb)
      have HB := Lib.hid (HB.out.trans (hb.mono HB.out.size))
      clear hb
      go_simp
      generalize w4.alloc _ = w5 at *
      generalize w4.heap.size = g4 at *
      refine hK.out _ _ (fun _ => HV1.out.1) ?_
      clear hK K
      try simp only [Act.put, List.setIfInBounds_toArray, List.set_cons_zero, List.set_cons_succ]
      refine only_X 1 rfl (by kernel_rfl) (by rfl) (fun K hK => ?_)
      go_wp2_with fail
      refine (leaf_a _).mono ?_
      rintro e' w6 ⟨cs, rfl, hb, hn⟩
      have HV1 := Lib.hid (HV1.out.go hb)
      have HV2 := Lib.hid (HV2.out.go hb)
      have HX := Lib.hid ((hb.block _ (row_lt HX.out)).trans HX.out)
      have HB := Lib.hid (HB.out.trans (hb.mono HB.out.size))
      have HN := Lib.hid hn
      clear hb hn
      refine hK.out _ _ (fun _ => HV1.out.1) ?_
      clear hK K
      try simp only [Act.put, List.setIfInBounds_toArray, List.set_cons_zero, List.set_cons_succ]
      refine only_X 2 rfl (by kernel_rfl) (by rfl) (fun K hK => ?_)
      have HP := Lib.hid (put_1 HK.out HB.out cs HN.out A2 n2 c2 (HIn.of_mk HV1.out.2.1 (by decide) sm1))
      rw [HY2.out] at HP
      go_wp2_with fail
      refine HP.out.mono ?_
      rintro e' w7 ⟨A6, n6, c6, rfl, hm⟩
      have HM := Lib.hid (hm.since HB.out)
      have hb := hm.2
      have HV1 := Lib.hid (HV1.out.go hb)
      have HV2 := Lib.hid (HV2.out.go hb)
      have HX := Lib.hid ((hb.block _ (row_lt HX.out)).trans HX.out)
      have HB := Lib.hid (HB.out.trans (hb.mono HB.out.size))
      clear hb hm HP HN
      refine hK.out _ _ (fun h => absurd h (by decide)) ?_
      clear hK K
      try simp only [Act.put, List.setIfInBounds_toArray, List.set_cons_zero, List.set_cons_succ]
      refine take_X 3 25 (.tuple #[.agg #[.int .u32 16, .slice A6 n6 c6], .agg (ecK y2).toArray, .int .i64 0]) rfl (by rfl) (by kernel_rfl) (by kernel_rfl) (by kernel_rfl) (by kernel_rfl) (fun _ _ _ h => h) (Till.mono (by decide)) (Or.inl ⟨by rfl, fun w' _ => by go_simp⟩) (fun h => absurd h (by decide)) ?_
      try simp only [Act.put, List.setIfInBounds_toArray, List.set_cons_zero, List.set_cons_succ]
      refine take_X 4 29 (.agg #[.int .u32 16, .slice A6 n6 c6]) rfl (by rfl) (by kernel_rfl) (by kernel_rfl) (by kernel_rfl) (by kernel_rfl) (fun _ _ _ h => h) (Till.mono (by decide)) (Or.inl ⟨by rfl, fun w' _ => by go_simp⟩) (fun h => absurd h (by decide)) ?_
      try simp only [Act.put, List.setIfInBounds_toArray, List.set_cons_zero, List.set_cons_succ]
      refine take_X 5 30 (.agg (ecK y2).toArray) rfl (by rfl) (by kernel_rfl) (by kernel_rfl) (by kernel_rfl) (by kernel_rfl) (fun _ _ _ h => h) (Till.mono (by decide)) (Or.inl ⟨by rfl, fun w' _ => by go_simp⟩) (fun h => absurd h (by decide)) ?_
      try simp only [Act.put, List.setIfInBounds_toArray, List.set_cons_zero, List.set_cons_succ]
      refine take_X 6 31 (.int .i64 0) rfl (by rfl) (by kernel_rfl) (by kernel_rfl) (by kernel_rfl) (by kernel_rfl) (fun _ _ _ h => h) (Till.mono (by decide)) (Or.inl ⟨by rfl, fun w' _ => by go_simp⟩) (fun h => absurd h (by decide)) ?_
      try simp only [Act.put, List.setIfInBounds_toArray, List.set_cons_zero, List.set_cons_succ]
      refine only_X 8 rfl (by kernel_rfl) (by rfl) (fun K hK => ?_)
      have k0 := cell_of_row _ _ 0 _ _ _ HV1.out.1
      have k1 := cell_of_row _ _ 1 _ _ _ HV1.out.1
      simp only [List.getElem?_toArray, List.getElem?_cons_zero, List.getElem?_cons_succ] at k0 k1
      have f0 := frozen_of_row w7 g1 0 _ _ HV1.out.1
      have f1 := frozen_of_row w7 g1 1 _ _ HV1.out.1
      have l0 := row_lt HV1.out.1
      go_wp2_with fail
      have r1 := row_set (cs := [.int .u32 16, .slice A2 n2 c2]) (i := 0) (u := .int .u32 16) HV1.out.1
      have r2 : ((w7.setCell ⟨g1, 0, none⟩ (.int .u32 16)).setCell ⟨g1, 1, none⟩ (.slice A6 n6 c6)).heap[g1]? = some (.cells #[.int .u32 16, .slice A6 n6 c6] 25 (0, 0)) := row_set (cs := [.int .u32 16, .slice A2 n2 c2]) (i := 1) (u := .slice A6 n6 c6) r1
      have hgg := grown_trans (grown_cell w7 g1 0 (.int .u32 16)) (grown_cell (w7.setCell ⟨g1, 0, none⟩ (.int .u32 16)) g1 1 (.slice A6 n6 c6))
      have HV2 := Lib.hid (show KVar w ((w7.setCell ⟨g1, 0, none⟩ (.int .u32 16)).setCell ⟨g1, 1, none⟩ (.slice A6 n6 c6)) (g1 + 1) y2 from ⟨row_other hgg HV2.out.1 (by omega), HV2.out.2⟩)
      have HX := Lib.hid (row_other hgg HX.out (by have := HG.out; omega))
      have HB := Lib.hid (HB.out.trans (below_of_grown hgg HB.out.size HV1.out.2.2))
      have HV1 := Lib.hid (show HVar w ((w7.setCell ⟨g1, 0, none⟩ (.int .u32 16)).setCell ⟨g1, 1, none⟩ (.slice A6 n6 c6)) g1 A6 n6 c6 H1 from ⟨r2, MkC.two HM.out HV1.out.1 HV1.out.2.2, HV1.out.2.2⟩)
      clear k0 k1 f0 f1 l0 r1 r2 hgg HM
      generalize (w7.setCell ⟨g1, 0, none⟩ (.int .u32 16)).setCell ⟨g1, 1, none⟩ (.slice A6 n6 c6) = w8 at *
      refine hK.out _ _ (fun h => absurd h (by decide)) ?_
      clear hK K
      try simp only [Act.put, List.setIfInBounds_toArray, List.set_cons_zero, List.set_cons_succ]
      refine only_X 9 rfl (by kernel_rfl) (by rfl) (fun K hK => ?_)
      refine wp_store_row 45 (.tmp 4) (.tmp 30) rfl g4 (ecK y2).toArray rfl rfl 45 _ HX.out (infoKa y2) ((show zKd.size = 34 from rfl).trans (ecK_sz y2)) (all_of_one (ecK_one y2)) ?_
      have hgg := grown_row w8 g4 (ecK y2).toArray
      have HL := Lib.hid (show LvR w g1 y2 (.pointer (some ⟨g4, 0, none⟩)) (.int .i64 0) (w8.setRow g4 (ecK y2).toArray) from ⟨g4, A6, n6, c6, rfl, rfl, ⟨row_other hgg HV1.out.1 (by have := HG.out; omega), HV1.out.2.1.grownQ hgg HGW.out (Mk.off HV1.out.2.1 HX.out (by decide)), HV1.out.2.2⟩, ⟨row_other hgg HV2.out.1 (by have := HG.out; omega), HV2.out.2⟩, ⟨setRow_at HX.out, HGW.out⟩, HB.out.trans (below_of_grown hgg HB.out.size HGW.out), HG.out⟩)
      clear hgg HX HV1 HV2 HB HG HGW
      generalize w8.setRow g4 (ecK y2).toArray = w9 at *
      refine hK.out _ _ (fun h => absurd h (by decide)) ?_
      clear hK K
      try simp only [Act.put, List.setIfInBounds_toArray, List.set_cons_zero, List.set_cons_succ]
      refine take_X 10 5 (.int .i64 0) rfl (by rfl) (by kernel_rfl) (by kernel_rfl) (by kernel_rfl) (by kernel_rfl) (fun _ _ _ h => h) (Till.mono (by decide)) (Or.inl ⟨by rfl, fun w' _ => by go_simp⟩) (fun h => absurd h (by decide)) ?_
      try simp only [Act.put, List.setIfInBounds_toArray, List.set_cons_zero, List.set_cons_succ]
      refine done_X (by kernel_rfl) ?_ _
      refine hKK _ _ (Met.intro (hJJ _ _ ?_))
      (repeat apply Exists.intro)
      exact ⟨HL.out, rfl⟩
  case rest =>
    obtain ⟨g4, A, n, c, rfl, rfl, V1, V2, V4, B, hg4⟩ := Hid.out hcut
    clear hcut HV1 HV2 HV3
    obtain ⟨yb, hyb⟩ : ∃ yb : Kd, brK = yb := ⟨_, rfl⟩
    have HR2 := Lib.hid (show (wc.setCell ⟨g1 + 1, 0, none⟩ (.string ⟨#[97]⟩)).heap[g1 + 1]? = some (.cells (ecK yb).toArray 45 (0, 0)) from (row_set (i := 0) (u := .string ⟨#[97]⟩) V2.1).trans (by rw [show (ecK y2).set 0 (.string ⟨#[97]⟩) = ecK yb by rw [← HY2.out, ← hyb]; rfl]))
    have hgg := grown_cell wc (g1 + 1) 0 (.string ⟨#[97]⟩)
    have HV1 := Lib.hid (show HVar w (wc.setCell ⟨g1 + 1, 0, none⟩ (.string ⟨#[97]⟩)) g1 A n c H1 from ⟨row_other hgg V1.1 (by omega), V1.2.1.grownQ hgg (by have := V2.2; omega) (Mk.off V1.2.1 V2.1 (by decide)), V1.2.2⟩)
    have HV4 := Lib.hid (show KVar w (wc.setCell ⟨g1 + 1, 0, none⟩ (.string ⟨#[97]⟩)) g4 y2 from ⟨row_other hgg V4.1 (by omega), V4.2⟩)
    have HB := Lib.hid (B.trans (below_of_grown hgg B.size V2.2))
    have HW2 := Lib.hid V2.2
    have HBR := Lib.hid hyb
    have k0 : wc.cell? ⟨g1 + 1, 0, none⟩ = some (.string y2.k) := (cell_of_row _ _ 0 _ _ _ V2.1).trans (by unfold ecK; rfl)
    have f0 := frozen_of_row wc (g1 + 1) 0 _ _ V2.1
    have l0 := row_lt V2.1
    have j0 := cell_of_row _ _ 0 _ _ _ V1.1
    have j1 := cell_of_row _ _ 1 _ _ _ V1.1
    simp only [List.getElem?_toArray, List.getElem?_cons_zero, List.getElem?_cons_succ] at j0 j1
    have i0 := row_lt V1.1
    clear V1 V2 V4 B hgg hyb
    go_wp2_with (first | (refine wpList_load_row rfl 45 (.tmp 2) rfl (g1 + 1) rfl 45 (ecK yb).toArray (0, 0) _ HR2.out Tryz.underlying45 rfl (infoKa yb) ?_) | (refine wpList_plain rfl (fun K1 hK1 => op_oneK (.tmp 35) yb rfl rfl (hK1 _ _ ?_))))
    have hb5 : Below (wc.setCell ⟨g1 + 1, 0, none⟩ (.string ⟨#[97]⟩)).heap.size (wc.setCell ⟨g1 + 1, 0, none⟩ (.string ⟨#[97]⟩)) ((wc.setCell ⟨g1 + 1, 0, none⟩ (.string ⟨#[97]⟩)).alloc (.cells (ecK yb).toArray 45)) := (Below.refl _ _).alloc (Nat.le_refl _) _
    have HNW := Lib.hid (show NdAt ((wc.setCell ⟨g1 + 1, 0, none⟩ (.string ⟨#[97]⟩)).alloc (.cells (ecK yb).toArray 45)) #[.int .u8 2, .slice none 0 0, .slice (some ⟨wc.heap.size, 0, none⟩) 1 1, .slice none 0 0] brN from ⟨none, 0, 0, some ⟨wc.heap.size, 0, none⟩, 1, 1, none, 0, 0, rfl, rfl, rfl, rfl, by decide, by decide, by decide, Ls.nil, by have := Ls.new (enc := ecK) (k := 34) (wc.setCell ⟨g1 + 1, 0, none⟩ (.string ⟨#[97]⟩)) yb 45 ((wc.setCell ⟨g1 + 1, 0, none⟩ (.string ⟨#[97]⟩)).alloc (.cells (ecK yb).toArray 45)).heap.size (by simp); rw [← HBR.out] at this ⊢; rw [show brN.K = [brK] from rfl]; simpa using this, Ls.nil⟩)
    have HV1 := Lib.hid (HV1.out.go hb5)
    have HV2 := Lib.hid (show KVar w ((wc.setCell ⟨g1 + 1, 0, none⟩ (.string ⟨#[97]⟩)).alloc (.cells (ecK yb).toArray 45)) (g1 + 1) yb from KVar.go ⟨HR2.out, by have := HW2.out; omega⟩ hb5)
    have HV4 := Lib.hid (HV4.out.go hb5)
    have HB := Lib.hid (HB.out.trans (hb5.mono HB.out.size))
    clear hb5 k0 f0 l0 j0 j1 i0 HR2 HW2
    change Calls _ _ _ ((wc.setCell ⟨g1 + 1, 0, none⟩ (.string ⟨#[97]⟩)).alloc (.cells (ecK yb).toArray 45)) _
    generalize wc.heap.size = gs at *
    generalize ((wc.setCell ⟨g1 + 1, 0, none⟩ (.string ⟨#[97]⟩)).alloc (.cells (ecK yb).toArray 45)) = w5 at *
    refine (put_2 HK.out HB.out _ HNW.out A n c (HIn.of_mk HV1.out.2.1 (by decide) sm1)).mono ?_
    rintro e w6 ⟨A6, n6, c6, rfl, hm⟩
    have HM := Lib.hid (hm.since HB.out)
    have hb := hm.2
    obtain ⟨y3, hy3⟩ : ∃ y3 : Kd, (⟨⟨#[]⟩, 3, hsD brD⟩ : Kd) = y3 := ⟨_, rfl⟩
    rw [hy3]
    have HY3 := Lib.hid hy3
    clear hy3
    have HV1 := Lib.hid (HV1.out.go hb)
    have HV2 := Lib.hid (HV2.out.go hb)
    have HV4 := Lib.hid (HV4.out.go hb)
    have HB := Lib.hid (HB.out.trans (hb.mono HB.out.size))
    clear hb hm HNW
    have hg16 : g1 + 1 < w6.heap.size := row_lt HV2.out.1
    have hg46 : g4 < w6.heap.size := row_lt HV4.out.1
    have HLP := Lib.hid (Lv.put (show Lv w w6 g1 g4 (g1 + 1) A n c H1 yb y2 yb from ⟨HV1.out, HV2.out, HV4.out, HV2.out, HB.out, by omega, by omega⟩) HM.out)
    have hz6 : ((w6.setCell ⟨g1, 0, none⟩ (.int .u32 16)).setCell ⟨g1, 1, none⟩ (.slice A6 n6 c6)).heap.size = w6.heap.size := by simp
    have hb7 : Below ((w6.setCell ⟨g1, 0, none⟩ (.int .u32 16)).setCell ⟨g1, 1, none⟩ (.slice A6 n6 c6)).heap.size ((w6.setCell ⟨g1, 0, none⟩ (.int .u32 16)).setCell ⟨g1, 1, none⟩ (.slice A6 n6 c6)) (((w6.setCell ⟨g1, 0, none⟩ (.int .u32 16)).setCell ⟨g1, 1, none⟩ (.slice A6 n6 c6)).alloc (.cells zKd 45)) := (Below.refl _ _).alloc (Nat.le_refl _) _
    have HL7 := Lib.hid (HLP.out.go hb7)
    have hX := heap_alloc_new ((w6.setCell ⟨g1, 0, none⟩ (.int .u32 16)).setCell ⟨g1, 1, none⟩ (.slice A6 n6 c6)) (.cells zKd 45)
    rw [hz6] at hX
    have HX7 := Lib.hid hX
    clear hz6 HLP
    have HG6 := Lib.hid (show w.heap.size ≤ w6.heap.size from HB.out.size)
    have k0 := cell_of_row _ _ 0 _ _ _ HV1.out.1
    have k1 := cell_of_row _ _ 1 _ _ _ HV1.out.1
    simp only [List.getElem?_toArray, List.getElem?_cons_zero, List.getElem?_cons_succ] at k0 k1
    have f0 := frozen_of_row w6 g1 0 _ _ HV1.out.1
    have f1 := frozen_of_row w6 g1 1 _ _ HV1.out.1
    have l0 := row_lt HV1.out.1
    have hgr := grown_row (((w6.setCell ⟨g1, 0, none⟩ (.int .u32 16)).setCell ⟨g1, 1, none⟩ (.slice A6 n6 c6)).alloc (.cells zKd 45)) w6.heap.size (ecK y3).toArray
    have HL := Lib.hid (show Lv w ((((w6.setCell ⟨g1, 0, none⟩ (.int .u32 16)).setCell ⟨g1, 1, none⟩ (.slice A6 n6 c6)).alloc (.cells zKd 45)).setRow w6.heap.size (ecK y3).toArray) g1 g4 w6.heap.size A6 n6 c6 H2 yb y2 y3 from ⟨⟨row_other hgr HL7.out.v1.1 (by omega), HL7.out.v1.2.1.grownQ hgr HG6.out (Mk.off HL7.out.v1.2.1 HX7.out (by decide)), HL7.out.v1.2.2⟩, ⟨row_other hgr HL7.out.v2.1 (by omega), HL7.out.v2.2⟩, ⟨row_other hgr HL7.out.v4.1 (by omega), HL7.out.v4.2⟩, ⟨setRow_at HX7.out, HG6.out⟩, HL7.out.b.trans (below_of_grown hgr HL7.out.b.size HG6.out), by omega, by omega⟩)
    have N2 := Lib.hid (show yb.n = 2 by rw [← HBR.out]; rfl)
    have N4 := Lib.hid (show y2.n = 2 by rw [← HY2.out])
    have N6 := Lib.hid (show y3.n = 3 by rw [← HY3.out])
    clear hX hb7 hgr
    go_wp2_with (refine wpList_store_row rfl 45 (.tmp 6) (.tmp 40) rfl w6.heap.size (ecK y3).toArray rfl rfl 45 _ HX7.out (infoKa y3) ((show zKd.size = 34 from rfl).trans (ecK_sz y3)) (all_of_one (ecK_one y3)) ?_; change wpList _ _ _ _ _ ((((w6.setCell ⟨g1, 0, none⟩ (.int .u32 16)).setCell ⟨g1, 1, none⟩ (.slice A6 n6 c6)).alloc (.cells zKd 45)).setRow w6.heap.size (ecK y3).toArray); clear k0 k1 f0 f1 l0 hg16 hg46 HX7 HL7 HV1 HV2 HV4 HB HM HG6; generalize ((((w6.setCell ⟨g1, 0, none⟩ (.int .u32 16)).setCell ⟨g1, 1, none⟩ (.slice A6 n6 c6)).alloc (.cells zKd 45)).setRow w6.heap.size (ecK y3).toArray) = w7 at *; generalize w6.heap.size = g6 at *; have k0 := cell_of_row _ _ 0 _ _ _ HL.out.v1.1; have k1 := cell_of_row _ _ 1 _ _ _ HL.out.v1.1; simp only [List.getElem?_toArray, List.getElem?_cons_zero, List.getElem?_cons_succ] at k0 k1; have f0 := frozen_of_row w7 g1 0 _ _ HL.out.v1.1; have f1 := frozen_of_row w7 g1 1 _ _ HL.out.v1.1; have l0 := row_lt HL.out.v1.1; have kn : w7.cell? ⟨g1 + 1, 1, none⟩ = some (.int .u32 2) := (HL.out.v2.num).trans (by rw [N2.out]; rfl); have mn : w7.cell? ⟨g4, 1, none⟩ = some (.int .u32 2) := (HL.out.v4.num).trans (by rw [N4.out]; rfl); have bn : w7.cell? ⟨g6, 1, none⟩ = some (.int .u32 3) := (HL.out.v6.num).trans (by rw [N6.out]; rfl); have l4 := row_lt HL.out.v4.1; have l6 := row_lt HL.out.v6.1; have lk := row_lt HL.out.v2.1)
    refine (hold_2 HK.out HL.out.b A6 n6 c6 (HIn.of_mk HL.out.v1.2.1 (by decide) (sm23 0))).mono ?_
    rintro e w8 ⟨A8, n8, c8, rfl, hm⟩
    have HM := Lib.hid (hm.since HL.out.b)
    have HL := Lib.hid (HL.out.go hm.2)
    clear hm
    clear k0 k1 f0 f1 l0 kn bn mn l4 l6 lk
    have k0 := cell_of_row _ _ 0 _ _ _ HL.out.v1.1
    have k1 := cell_of_row _ _ 1 _ _ _ HL.out.v1.1
    simp only [List.getElem?_toArray, List.getElem?_cons_zero, List.getElem?_cons_succ] at k0 k1
    have f0 := frozen_of_row w8 g1 0 _ _ HL.out.v1.1
    have f1 := frozen_of_row w8 g1 1 _ _ HL.out.v1.1
    have l0 := row_lt HL.out.v1.1
    have kn : w8.cell? ⟨g1 + 1, 1, none⟩ = some (.int .u32 2) := (HL.out.v2.num).trans (by rw [N2.out]; rfl)
    have mn : w8.cell? ⟨g4, 1, none⟩ = some (.int .u32 2) := (HL.out.v4.num).trans (by rw [N4.out]; rfl)
    have bn : w8.cell? ⟨g6, 1, none⟩ = some (.int .u32 3) := (HL.out.v6.num).trans (by rw [N6.out]; rfl)
    have l4 := row_lt HL.out.v4.1
    have l6 := row_lt HL.out.v6.1
    have lk := row_lt HL.out.v2.1
    have HL := Lib.hid (Lv.put HL.out HM.out)
    go_wp2_with fail
    change Calls _ _ _ ((w8.setCell ⟨g1, 0, none⟩ (.int .u32 16)).setCell ⟨g1, 1, none⟩ (.slice A8 n8 c8)) _
    clear k0 k1 f0 f1 l0 kn bn mn l4 l6 lk HM
    generalize ((w8.setCell ⟨g1, 0, none⟩ (.int .u32 16)).setCell ⟨g1, 1, none⟩ (.slice A8 n8 c8)) = w9 at *
    refine (free_3 HK.out HL.out.b A8 n8 c8 (HIn.of_mk HL.out.v1.2.1 (by decide) (sm23 1))).mono ?_
    rintro e w10 ⟨rfl, hb⟩
    have HL := Lib.hid (HL.out.go hb)
    clear hb
    have k0 := cell_of_row _ _ 0 _ _ _ HL.out.v1.1
    have k1 := cell_of_row _ _ 1 _ _ _ HL.out.v1.1
    simp only [List.getElem?_toArray, List.getElem?_cons_zero, List.getElem?_cons_succ] at k0 k1
    have f0 := frozen_of_row w10 g1 0 _ _ HL.out.v1.1
    have f1 := frozen_of_row w10 g1 1 _ _ HL.out.v1.1
    have l0 := row_lt HL.out.v1.1
    have kn : w10.cell? ⟨g1 + 1, 1, none⟩ = some (.int .u32 2) := (HL.out.v2.num).trans (by rw [N2.out]; rfl)
    have mn : w10.cell? ⟨g4, 1, none⟩ = some (.int .u32 2) := (HL.out.v4.num).trans (by rw [N4.out]; rfl)
    have bn : w10.cell? ⟨g6, 1, none⟩ = some (.int .u32 3) := (HL.out.v6.num).trans (by rw [N6.out]; rfl)
    have l4 := row_lt HL.out.v4.1
    have l6 := row_lt HL.out.v6.1
    have lk := row_lt HL.out.v2.1
    go_wp2_with fail
    clear k0 k1 f0 f1 l0 kn bn mn l4 l6 lk
    refine (drop_2 HK.out HL.out.b A8 n8 c8 (HIn.of_mk HL.out.v1.2.1 (by decide) (sm23 1))).mono ?_
    rintro e w11 ⟨sz, A11, n11, c11, rfl, hb⟩
    have HL := Lib.hid (HL.out.go hb)
    clear hb
    have k0 := cell_of_row _ _ 0 _ _ _ HL.out.v1.1
    have k1 := cell_of_row _ _ 1 _ _ _ HL.out.v1.1
    simp only [List.getElem?_toArray, List.getElem?_cons_zero, List.getElem?_cons_succ] at k0 k1
    have f0 := frozen_of_row w11 g1 0 _ _ HL.out.v1.1
    have f1 := frozen_of_row w11 g1 1 _ _ HL.out.v1.1
    have l0 := row_lt HL.out.v1.1
    have kn : w11.cell? ⟨g1 + 1, 1, none⟩ = some (.int .u32 2) := (HL.out.v2.num).trans (by rw [N2.out]; rfl)
    have mn : w11.cell? ⟨g4, 1, none⟩ = some (.int .u32 2) := (HL.out.v4.num).trans (by rw [N4.out]; rfl)
    have bn : w11.cell? ⟨g6, 1, none⟩ = some (.int .u32 3) := (HL.out.v6.num).trans (by rw [N6.out]; rfl)
    have l4 := row_lt HL.out.v4.1
    have l6 := row_lt HL.out.v6.1
    have lk := row_lt HL.out.v2.1
    have HL := Lib.hid (HL.out.go (show Below w11.heap.size w11 (w11.alloc (.cells #[.int .u32 sz, .slice A11 n11 c11] 25)) from (Below.refl _ _).alloc (Nat.le_refl _) _))
    go_wp2_with fail
    change Calls _ _ _ (w11.alloc (.cells #[.int .u32 sz, .slice A11 n11 c11] 25)) _
    clear k0 k1 f0 f1 l0 kn bn mn l4 l6 lk
    generalize w11.heap.size = g11 at *
    generalize (w11.alloc (.cells #[.int .u32 sz, .slice A11 n11 c11] 25)) = w12 at *
    refine (get_3 HK.out HL.out.b A8 n8 c8 (HIn.of_mk HL.out.v1.2.1 (by decide) (sm23 1))).mono ?_
    rintro e w13 ⟨cs13, rfl, vI, vK, vV, rfl, ho1, ho2, ho3⟩
    have HL := Lib.hid (HL.out.go ho1.2)
    obtain ⟨AI, nI, cI, rfl⟩ := own_shape ho1.1
    obtain ⟨AV, nV, cV, rfl⟩ := own_shape ho3.1
    obtain ⟨AK, cK, rfl⟩ : ∃ A c, vK = .slice A 1 c := (by obtain ⟨A, c, h, _⟩ := ho2.ls ecK_len; exact ⟨A, c, h⟩)
    clear ho1 ho2 ho3
    have k0 := cell_of_row _ _ 0 _ _ _ HL.out.v1.1
    have k1 := cell_of_row _ _ 1 _ _ _ HL.out.v1.1
    simp only [List.getElem?_toArray, List.getElem?_cons_zero, List.getElem?_cons_succ] at k0 k1
    have f0 := frozen_of_row w13 g1 0 _ _ HL.out.v1.1
    have f1 := frozen_of_row w13 g1 1 _ _ HL.out.v1.1
    have l0 := row_lt HL.out.v1.1
    have kn : w13.cell? ⟨g1 + 1, 1, none⟩ = some (.int .u32 2) := (HL.out.v2.num).trans (by rw [N2.out]; rfl)
    have mn : w13.cell? ⟨g4, 1, none⟩ = some (.int .u32 2) := (HL.out.v4.num).trans (by rw [N4.out]; rfl)
    have bn : w13.cell? ⟨g6, 1, none⟩ = some (.int .u32 3) := (HL.out.v6.num).trans (by rw [N6.out]; rfl)
    have l4 := row_lt HL.out.v4.1
    have l6 := row_lt HL.out.v6.1
    have lk := row_lt HL.out.v2.1
    have hb13 : Below w13.heap.size w13 (w13.alloc (.cells #[.int .u8 brN.kd, .slice AI nI cI, .slice AK 1 cK, .slice AV nV cV] 31)) := (Below.refl _ _).alloc (Nat.le_refl _) _
    have HL := Lib.hid (HL.out.go hb13)
    clear hb13
    have HN13 := Lib.hid (heap_alloc_new w13 (.cells #[.int .u8 brN.kd, .slice AI nI cI, .slice AK 1 cK, .slice AV nV cV] 31))
    go_wp2_with fail
    change Calls _ _ _ (w13.alloc (.cells #[.int .u8 brN.kd, .slice AI nI cI, .slice AK 1 cK, .slice AV nV cV] 31)) _
    clear k0 k1 f0 f1 l0 kn bn mn l4 l6 lk
    generalize w13.heap.size = g13 at *
    generalize (w13.alloc (.cells #[.int .u8 brN.kd, .slice AI nI cI, .slice AK 1 cK, .slice AV nV cV] 31)) = w14 at *
    refine (held_3 HK.out HL.out.b A8 n8 c8 (HIn.of_mk HL.out.v1.2.1 (by decide) (sm23 1))).mono ?_
    rintro e w15 ⟨rfl, hb⟩
    have HL := Lib.hid (HL.out.go hb)
    have HN13 := Lib.hid ((hb.block _ (row_lt HN13.out)).trans HN13.out)
    clear hb
    have k0 := cell_of_row _ _ 0 _ _ _ HL.out.v1.1
    have k1 := cell_of_row _ _ 1 _ _ _ HL.out.v1.1
    simp only [List.getElem?_toArray, List.getElem?_cons_zero, List.getElem?_cons_succ] at k0 k1
    have f0 := frozen_of_row w15 g1 0 _ _ HL.out.v1.1
    have f1 := frozen_of_row w15 g1 1 _ _ HL.out.v1.1
    have l0 := row_lt HL.out.v1.1
    have kn : w15.cell? ⟨g1 + 1, 1, none⟩ = some (.int .u32 2) := (HL.out.v2.num).trans (by rw [N2.out]; rfl)
    have mn : w15.cell? ⟨g4, 1, none⟩ = some (.int .u32 2) := (HL.out.v4.num).trans (by rw [N4.out]; rfl)
    have bn : w15.cell? ⟨g6, 1, none⟩ = some (.int .u32 3) := (HL.out.v6.num).trans (by rw [N6.out]; rfl)
    have l4 := row_lt HL.out.v4.1
    have l6 := row_lt HL.out.v6.1
    have lk := row_lt HL.out.v2.1
    go_wp2_with fail
    clear k0 k1 f0 f1 l0 kn bn mn l4 l6 lk
    refine (drop_3 HK.out HL.out.b A8 n8 c8 (HIn.of_mk HL.out.v1.2.1 (by decide) (sm23 1))).mono ?_
    rintro e w16 ⟨A16, c16, rfl, hb⟩
    have HL := Lib.hid (HL.out.go hb)
    have HN13 := Lib.hid ((hb.block _ (row_lt HN13.out)).trans HN13.out)
    clear hb
    have k0 := cell_of_row _ _ 0 _ _ _ HL.out.v1.1
    have k1 := cell_of_row _ _ 1 _ _ _ HL.out.v1.1
    simp only [List.getElem?_toArray, List.getElem?_cons_zero, List.getElem?_cons_succ] at k0 k1
    have f0 := frozen_of_row w16 g1 0 _ _ HL.out.v1.1
    have f1 := frozen_of_row w16 g1 1 _ _ HL.out.v1.1
    have l0 := row_lt HL.out.v1.1
    have kn : w16.cell? ⟨g1 + 1, 1, none⟩ = some (.int .u32 2) := (HL.out.v2.num).trans (by rw [N2.out]; rfl)
    have mn : w16.cell? ⟨g4, 1, none⟩ = some (.int .u32 2) := (HL.out.v4.num).trans (by rw [N4.out]; rfl)
    have bn : w16.cell? ⟨g6, 1, none⟩ = some (.int .u32 3) := (HL.out.v6.num).trans (by rw [N6.out]; rfl)
    have l4 := row_lt HL.out.v4.1
    have l6 := row_lt HL.out.v6.1
    have lk := row_lt HL.out.v2.1
    have gk : w16.cell? ⟨g13, 2, none⟩ = some (.slice AK 1 cK) := cell_of_row _ _ 2 _ _ _ HN13.out
    have lg := row_lt HN13.out
    have hn4 : g4 ≠ g1 := HL.out.ne4
    have hn6 : g6 ≠ g1 := HL.out.ne6
    have hn13 : g13 ≠ g1 := fun e => by
      have h1 := HN13.out
      rw [e, HL.out.v1.1] at h1
      simp only [Option.some.injEq, Obj.cells.injEq] at h1
      exact absurd h1.2.1 (by decide)
    have HB := Lib.hid (HL.out.b.trans (below_of_grown (grown_trans (grown_cell w16 g1 0 (.int .u32 16)) (grown_cell (w16.setCell ⟨g1, 0, none⟩ (.int .u32 16)) g1 1 (.slice A16 0 c16))) HL.out.b.size HL.out.v1.2.2))
    go_wp2_with fail
    go_ret
    exact ⟨rfl, HB.out⟩
end Go.Proofs.YtlpejbbmemhloaaGreatDoor.Hp
/- The walk of the law HeapRoom. -/
namespace Go.Proofs.YtlpejbbmemhloaaGreatDoor.Hp
set_option linter.unusedVariables false
set_option linter.unusedSimpArgs false
set_option maxRecDepth 100000
open Go.ChangeShapes Go.WideShapes Go.ChangeAt Go.RowKit
open Ar Nd
open BigFrame
/-- a cell of a number is there -/
def isL (L : List Ce) (num : Nat) : Bool := L.any fun c => decide (c.num = num)
theorem isL_snoc (L : List Ce) (c : Ce) (num : Nat) : isL (L ++ [c]) num = (isL L num || decide (c.num = num)) := by
  unfold isL
  rw [List.any_append, List.any_cons, List.any_nil, Bool.or_false]
theorem isL_fnd (L : List Ce) (num : Nat) : isL L num = (fndL L num).isSome := by
  induction L with
  | nil => rfl
  | cons c L ih =>
    unfold isL fndL at ih ⊢
    rw [List.any_cons, List.find?_cons, ih]
    cases decide (c.num = num) <;> rfl
/-- a cell of a list that came in -/
theorem HIn.cell {w : World} {A : Option Addr} {n i : Nat} {L : List Ce} {c : Ce} (h : HIn w A n L) (hc : L[i]? = some c) : ∃ b o, A = some ⟨b, o, none⟩ ∧ b < w.heap.size ∧ w.cell? ⟨b, o + i * 3, none⟩ = some (.int .u32 c.num) ∧ w.cell? ⟨b, o + i * 3 + 1, none⟩ = some (.string c.d) ∧ w.cell? ⟨b, o + i * 3 + 2, none⟩ = some (.int .i64 c.r) := by
  obtain ⟨b, o, e, hb, hr⟩ := h.ls i c hc
  exact ⟨b, o, e, hb, hr 0 _ rfl, hr 1 _ rfl, hr 2 _ rfl⟩
theorem okH.room {sz : Nat} {L : List Ce} (h : okH sz L) : L.length + 2 ≤ sz := by
  rcases Nat.eq_zero_or_pos L.length with h0 | h0
  · have := h.lo; omega
  · have hl : L[L.length - 1]? = some (L[L.length - 1]'(by omega)) := List.getElem?_eq_getElem _
    have h1 := h.cs.ge _ _ (by omega) hl
    have h2 := (h.cs _ _ (by omega) hl).2.1
    omega
theorem held_nn (sz : Nat) (L : List Ce) (num : Nat) : 0 ≤ heldX sz L num := by
  unfold heldX
  split
  · rename_i hok
    cases hf : fndL L num with
    | none => exact Int.le_refl _
    | some c =>
      have h1 := hok.rf c (List.mem_of_find?_eq_some hf)
      have h2 : c.num = num := by have := List.find?_some hf; simpa using this
      rw [h2] at h1
      show (0 : Int) ≤ c.r - (ldL L num : Int)
      omega
  · exact Int.le_refl _
theorem fndE_ok {sz : Nat} {L : List Ce} (h : okH sz L) (num : Nat) : (fndE sz L num == 0) = isL L num := by
  unfold fndE
  rw [if_pos h, isL_fnd]
  cases fndL L num <;> rfl
end Go.Proofs.YtlpejbbmemhloaaGreatDoor.Hp
/- How arguments are opened: slices whose elements are structs of plain cells; how the bound of a statement reaches their lengths. -/
namespace Go.Proofs.YtlpejbbmemhloaaGreatDoor.Fr
set_option linter.unusedVariables false
open Go.ChangeShapes Go.WideShapes Go.RowKit Go.Deep
open Ar
theorem list_of {α : Type} {p : Nat → α → Prop} : ∀ n : Nat, (∀ i, i < n → ∃ x, p i x) → ∃ D : List α, D.length = n ∧ ∀ i x, D[i]? = some x → p i x
  | 0, _ => ⟨[], rfl, fun i x h => by simp at h⟩
  | n + 1, h => by
    obtain ⟨D, h1, h2⟩ := list_of n fun i hi => h i (by omega)
    obtain ⟨y, hy⟩ := h n (by omega)
    refine ⟨D ++ [y], by simp [h1], fun i x hx => ?_⟩
    rcases Nat.lt_or_ge i n with hlt | hge
    · rw [List.getElem?_append_left (by omega)] at hx; exact h2 i x hx
    · rw [List.getElem?_append_right (by omega), h1] at hx
      have : i = n := by
        rcases Nat.lt_or_ge n i with h3 | h3
        · rw [List.getElem?_eq_none (by simp; omega)] at hx; cases hx
        · omega
      subst this
      simp at hx; subst hx; exact hy
section
variable {H : Type} {enc : TypeId × Value → H} {P : Program} {w : World} {base : Nat} {spare : Nat → Bool} {held : Bool}
theorem open_ls {α : Type} (en : α → List Value) (k : Nat) {t e : TypeId} {fuel : Nat} {v : Value} {x : DataW H × List MemPlace} (ht : P.underlying t = some (.slice e)) (hk : P.cellsOf e = k) (hk0 : 0 < k)
    (hr : ∀ n cs y, cs.length = k → DataW.trod enc P w base spare held n e cs = some y → ∃ x : α, cs = en x) (hv : v.cells = #[v]) (h : DataW.trod enc P w base spare held fuel t v.cells.toList = some x) :
    (v = .slice none 0 0 ∧ x.1 = .nil) ∨ ∃ A n c m D, v = .slice A n c ∧ n = List.length D ∧ n ≤ c ∧ c ≤ maxLen ∧ Ls en k w w.heap.size A D ∧ ∃ E F, x.1 = .slice E F ∧ E.length = n ∧ E.length + F.length = m := by
  rw [hv] at h
  rcases open_slice ht h with ⟨h1, h2⟩ | ⟨a, len, cap, m, n, D, Pl, hcs, hb, hl, hm, hmm, hx, hi⟩
  · left; simp at h1; exact ⟨h1, by rw [h2]⟩
  · right
    have hlm : len ≤ m := by rw [hmm]; split <;> omega
    simp at hcs
    rw [hk] at hi
    obtain ⟨L, hL1, hL2⟩ := list_of (α := α) (p := fun i x => ∃ b o, (some a : Option Addr) = some ⟨b, o, none⟩ ∧ b < w.heap.size ∧ w.rangeAt b (o + i * k) (en x)) len fun i hil => by
      have hspot : a.spot = none := by
        obtain ⟨cs', h1, h2⟩ := hi 0 (by omega)
        obtain ⟨_, hlen, hcell⟩ := World.cells?_some h1
        have hc0 := (hcell 0 hk0).trans (List.getElem?_eq_getElem (by omega))
        rw [add_add, Nat.zero_mul] at hc0
        have := World.cell?_spot hc0
        simpa [Addr.add] using this
      obtain ⟨cs', h1, h2⟩ := hi i (by omega)
      obtain ⟨_, hlen, hcell⟩ := World.cells?_some h1
      obtain ⟨x, rfl⟩ := hr _ _ _ hlen h2
      have hc0 := (hcell 0 hk0).trans (List.getElem?_eq_getElem (by omega))
      rw [add_add] at hc0
      obtain ⟨b, o, spot⟩ := a
      simp only at hspot
      subst hspot
      refine ⟨x, b, o, rfl, ?_, fun j u hu => ?_⟩
      · have := World.block_lt_of_cell? w _ hc0
        rw [Ar.add_plain] at this
        exact this
      · have hj : j < k := by rw [← hlen]; exact (List.getElem?_eq_some_iff.1 hu).1
        have := hcell j hj
        rw [add_add, Ar.add_plain, ← Nat.add_assoc, hu] at this
        exact this
    refine ⟨some a, len, cap, m, L, hcs, hL1.symm, hl, hm, hL2, (List.range len).map D, (List.range (m - len)).map fun j => D (len + j), by rw [hx], by simp, ?_⟩
    simp
    omega
end
end Go.Proofs.YtlpejbbmemhloaaGreatDoor.Fr
/- A node as an argument: how it is read, how much it has. -/
namespace Go.Proofs.YtlpejbbmemhloaaGreatDoor.Fr
set_option linter.unusedVariables false
set_option linter.unusedSimpArgs false
set_option maxRecDepth 100000
open Go.Joins Go.ChangeShapes Go.WideShapes Go.RowKit Go.Deep
open Ar
open Nd (Kd Vo ecK ecV NdAt Wd fix_of)
open Pk (u8s u8s_length)
section
variable {H : Type} {enc : TypeId × Value → H} {w : World} {base : Nat} {spare : Nat → Bool} {held : Bool}
theorem cU : Tryz.prog.cellsOf 22 = 1 := by kernel_rfl
theorem cS : Tryz.prog.cellsOf 9 = 1 := by kernel_rfl
theorem cB8 : Tryz.prog.cellsOf 5 = 1 := by kernel_rfl
theorem cU64 : Tryz.prog.cellsOf 119 = 1 := by kernel_rfl
theorem cVK : Tryz.prog.cellsOf 118 = 1 := by kernel_rfl
theorem cNK : Tryz.prog.cellsOf 26 = 1 := by kernel_rfl
theorem cArr : Tryz.prog.cellsOf 43 = 32 := by kernel_rfl
theorem cIt : Tryz.prog.cellsOf 63 = 2 := by kernel_rfl
theorem cKd : Tryz.prog.cellsOf 45 = 34 := by kernel_rfl
theorem cVo : Tryz.prog.cellsOf 121 = 37 := by kernel_rfl
theorem cLI : Tryz.prog.cellsOf 27 = 1 := by kernel_rfl
theorem cLK : Tryz.prog.cellsOf 28 = 1 := by kernel_rfl
theorem cLV : Tryz.prog.cellsOf 29 = 1 := by kernel_rfl
theorem cNd : Tryz.prog.cellsOf 31 = 4 := by kernel_rfl
theorem bIt : Tryz.prog.bytesOf 63 = 32 := by kernel_rfl
theorem bKd : Tryz.prog.bytesOf 45 = 56 := by kernel_rfl
theorem bVo : Tryz.prog.bytesOf 121 = 88 := by kernel_rfl
theorem rB : reachBytes = 140737488351232 := by kernel_rfl
theorem wf_u32 {z : Int} (h : (Lit.int .u32 z).wf = true) : ∃ n : Nat, z = n ∧ n ≤ 4294967295 := by
  have h1 : IntKind.u32.min ≤ z ∧ z ≤ IntKind.u32.max := by simpa [Lit.wf] using h
  have h2 : IntKind.u32.min = 0 := rfl
  have h3 : IntKind.u32.max = 4294967295 := rfl
  exact ⟨z.toNat, by omega, by omega⟩
theorem wf_i64 {z : Int} (h : (Lit.int .i64 z).wf = true) : -9223372036854775808 ≤ z ∧ z ≤ 9223372036854775807 := by
  have h1 : IntKind.i64.min ≤ z ∧ z ≤ IntKind.i64.max := by simpa [Lit.wf] using h
  have h2 : IntKind.i64.min = -9223372036854775808 := rfl
  have h3 : IntKind.i64.max = 9223372036854775807 := rfl
  omega
theorem wf_u8 {z : Int} (h : (Lit.int .u8 z).wf = true) : ∃ n : Nat, z = n ∧ n < 256 := by
  have h1 : IntKind.u8.min ≤ z ∧ z ≤ IntKind.u8.max := by simpa [Lit.wf] using h
  have h2 : IntKind.u8.min = 0 := rfl
  have h3 : IntKind.u8.max = 255 := rfl
  exact ⟨z.toNat, by omega, by omega⟩
theorem wf_u64 {z : Int} (h : (Lit.int .u64 z).wf = true) : ∃ n : Nat, z = n ∧ n < 18446744073709551616 := by
  have h1 : IntKind.u64.min ≤ z ∧ z ≤ IntKind.u64.max := by simpa [Lit.wf] using h
  have h2 : IntKind.u64.min = 0 := rfl
  have h3 : IntKind.u64.max = 18446744073709551615 := rfl
  exact ⟨z.toNat, by omega, by omega⟩
theorem readI {n : Nat} {cs : List Value} {y : DataW H × List MemPlace} (hl : cs.length = 2) (h : DataW.trod enc Tryz.prog w base spare held n 63 cs = some y) : ∃ x : It.Itm, cs = It.enc x := by
  obtain ⟨xs, m, _, _, _, hxl, hf⟩ := DataW.trod_struct Tryz.underlying63 h
  have g0 : DataW.trod enc Tryz.prog w base spare held m 9 ((cs.drop 0).take (Tryz.prog.cellsOf 9)) = xs[0]? := hf 0 _ rfl
  have g1 : DataW.trod enc Tryz.prog w base spare held m 9 ((cs.drop 1).take (Tryz.prog.cellsOf 9)) = xs[1]? := hf 1 _ rfl
  rw [cS] at g0 g1
  match cs, hl with
  | [v0, v1], _ =>
    match xs, hxl with
    | [x0, x1], _ =>
      obtain ⟨s0, e0, _⟩ := DataW.trod_string Tryz.underlying9 (g0.trans rfl : _ = some x0)
      obtain ⟨s1, e1, _⟩ := DataW.trod_string Tryz.underlying9 (g1.trans rfl : _ = some x1)
      simp at e0 e1
      exact ⟨⟨s0, s1⟩, by rw [e0, e1]; rfl⟩
theorem readH {n : Nat} {cs : List Value} {y : DataW H × List MemPlace} (hl : cs.length = 32) (h : DataW.trod enc Tryz.prog w base spare held n 43 cs = some y) : ∃ l : List UInt8, l.length = 32 ∧ cs = u8s l := by
  obtain ⟨xs, m, _, hx, hlen, hn, hel⟩ := DataW.trod_array Tryz.underlying43 h
  have each : ∀ i, i < 32 → ∃ b : UInt8, cs[i]? = some (.int .u8 (b.toNat : Int)) := by
    intro i hi
    have hd := hel i hi
    rw [cB8, Nat.mul_one, List.getElem?_eq_getElem (by omega)] at hd
    obtain ⟨k, e1, e2, e3⟩ := DataW.trod_int Tryz.underlying5 hd
    obtain ⟨q, rfl, hq⟩ := wf_u8 e3
    refine ⟨UInt8.ofNat q, ?_⟩
    have := congrArg (fun z => z[0]?) e1
    rw [UInt8.toNat_ofNat', show q % 2 ^ 8 = q by omega]
    simpa using this
  obtain ⟨L, hL1, hL2⟩ := list_of (α := UInt8) (p := fun i b => cs[i]? = some (.int .u8 (b.toNat : Int))) 32 each
  refine ⟨L, hL1, ?_⟩
  apply List.ext_getElem?
  intro i
  by_cases hi : i < 32
  · have hb := List.getElem?_eq_getElem (show i < L.length by omega)
    rw [hL2 i _ hb]
    unfold u8s
    rw [List.getElem?_map, hb]; rfl
  · rw [List.getElem?_eq_none (by omega), List.getElem?_eq_none (by rw [u8s_length]; omega)]
abbrev KdW := { x : Kd // x.n < 256 ^ 4 ∧ x.hs.length = 32 }
abbrev VoW := { x : Vo // x.kd < 256 ^ 1 ∧ x.bn < 256 ^ 8 ∧ x.rt < 256 ^ 4 ∧ x.hs.length = 32 }
theorem readK {n : Nat} {cs : List Value} {y : DataW H × List MemPlace} (hl : cs.length = 34) (h : DataW.trod enc Tryz.prog w base spare held n 45 cs = some y) : ∃ x : KdW, cs = ecK x.1 := by
  obtain ⟨xs, m, _, _, _, hxl, hf⟩ := DataW.trod_struct Tryz.underlying45 h
  have g0 : DataW.trod enc Tryz.prog w base spare held m 9 ((cs.drop 0).take (Tryz.prog.cellsOf 9)) = xs[0]? := hf 0 _ rfl
  have g1 : DataW.trod enc Tryz.prog w base spare held m 22 ((cs.drop 1).take (Tryz.prog.cellsOf 22)) = xs[1]? := hf 1 _ rfl
  have g2 : DataW.trod enc Tryz.prog w base spare held m 43 ((cs.drop 2).take (Tryz.prog.cellsOf 43)) = xs[2]? := hf 2 _ rfl
  rw [cS] at g0
  rw [cU] at g1
  rw [cArr] at g2
  match cs, hl with
  | v0 :: v1 :: rest, hl =>
    match xs, hxl with
    | [x0, x1, x2], _ =>
      obtain ⟨s0, e0, _⟩ := DataW.trod_string Tryz.underlying9 (g0.trans rfl : _ = some x0)
      obtain ⟨z1, e1, _, w1⟩ := DataW.trod_int Tryz.underlying22 (g1.trans rfl : _ = some x1)
      obtain ⟨k1, rfl, hk1⟩ := wf_u32 w1
      have hr : rest.length = 32 := by simpa using hl
      obtain ⟨l, hl32, e2⟩ := readH (by simp [hr]) (g2.trans rfl : _ = some x2)
      simp [hr] at e0 e1 e2
      rw [List.take_of_length_le (by omega)] at e2
      refine ⟨⟨⟨s0, k1, l⟩, by show k1 < 4294967296; omega, hl32⟩, ?_⟩
      show v0 :: v1 :: rest = ecK ⟨s0, k1, l⟩
      unfold ecK
      rw [fix_of hl32, e0, e1, e2]
theorem readV {n : Nat} {cs : List Value} {y : DataW H × List MemPlace} (hl : cs.length = 37) (h : DataW.trod enc Tryz.prog w base spare held n 121 cs = some y) : ∃ x : VoW, cs = ecV x.1 := by
  obtain ⟨xs, m, _, _, _, hxl, hf⟩ := DataW.trod_struct Tryz.underlying121 h
  have g0 : DataW.trod enc Tryz.prog w base spare held m 9 ((cs.drop 0).take (Tryz.prog.cellsOf 9)) = xs[0]? := hf 0 _ rfl
  have g1 : DataW.trod enc Tryz.prog w base spare held m 118 ((cs.drop 1).take (Tryz.prog.cellsOf 118)) = xs[1]? := hf 1 _ rfl
  have g2 : DataW.trod enc Tryz.prog w base spare held m 9 ((cs.drop 2).take (Tryz.prog.cellsOf 9)) = xs[2]? := hf 2 _ rfl
  have g3 : DataW.trod enc Tryz.prog w base spare held m 119 ((cs.drop 3).take (Tryz.prog.cellsOf 119)) = xs[3]? := hf 3 _ rfl
  have g4 : DataW.trod enc Tryz.prog w base spare held m 22 ((cs.drop 4).take (Tryz.prog.cellsOf 22)) = xs[4]? := hf 4 _ rfl
  have g5 : DataW.trod enc Tryz.prog w base spare held m 43 ((cs.drop 5).take (Tryz.prog.cellsOf 43)) = xs[5]? := hf 5 _ rfl
  rw [cS] at g0 g2
  rw [cVK] at g1
  rw [cU64] at g3
  rw [cU] at g4
  rw [cArr] at g5
  match cs, hl with
  | v0 :: v1 :: v2 :: v3 :: v4 :: rest, hl =>
    match xs, hxl with
    | [x0, x1, x2, x3, x4, x5], _ =>
      obtain ⟨s0, e0, _⟩ := DataW.trod_string Tryz.underlying9 (g0.trans rfl : _ = some x0)
      obtain ⟨z1, e1, _, w1⟩ := DataW.trod_int Tryz.underlying118 (g1.trans rfl : _ = some x1)
      obtain ⟨s2, e2, _⟩ := DataW.trod_string Tryz.underlying9 (g2.trans rfl : _ = some x2)
      obtain ⟨z3, e3, _, w3⟩ := DataW.trod_int Tryz.underlying119 (g3.trans rfl : _ = some x3)
      obtain ⟨z4, e4, _, w4⟩ := DataW.trod_int Tryz.underlying22 (g4.trans rfl : _ = some x4)
      obtain ⟨k1, rfl, hk1⟩ := wf_u8 w1
      obtain ⟨k3, rfl, hk3⟩ := wf_u64 w3
      obtain ⟨k4, rfl, hk4⟩ := wf_u32 w4
      have hr : rest.length = 32 := by simpa using hl
      obtain ⟨l, hl32, e5⟩ := readH (by simp [hr]) (g5.trans rfl : _ = some x5)
      simp [hr] at e0 e1 e2 e3 e4 e5
      rw [List.take_of_length_le (by omega)] at e5
      refine ⟨⟨⟨s0, k1, s2, k3, k4, l⟩, hk1, hk3, by show k4 < 4294967296; omega, hl32⟩, ?_⟩
      show v0 :: v1 :: v2 :: v3 :: v4 :: rest = ecV ⟨s0, k1, s2, k3, k4, l⟩
      unfold ecV
      rw [fix_of hl32, e0, e1, e2, e3, e4, e5]
theorem ls_map {α β : Type} {f : α → β} {en : β → List Value} {k B : Nat} {A : Option Addr} {D : List α} (h : Ls (fun x => en (f x)) k w B A D) : Ls en k w B A (D.map f) := fun i x hx => by
  rw [List.getElem?_map] at hx
  cases hd : D[i]? with
  | none => rw [hd] at hx; cases hx
  | some y =>
    rw [hd] at hx
    cases hx
    exact h i y hd
theorem open_ls1 {α : Type} (en : α → List Value) (k : Nat) {t e : TypeId} {fuel : Nat} {v : Value} {x : DataW H × List MemPlace} (ht : Tryz.prog.underlying t = some (.slice e)) (hk : Tryz.prog.cellsOf e = k) (hk0 : 0 < k)
    (hr : ∀ n cs y, cs.length = k → DataW.trod enc Tryz.prog w base spare held n e cs = some y → ∃ x : α, cs = en x) (h : DataW.trod enc Tryz.prog w base spare held fuel t [v] = some x) :
    (v = .slice none 0 0 ∧ x.1 = .nil) ∨ ∃ A n c m D, v = .slice A n c ∧ n = List.length D ∧ n ≤ c ∧ c ≤ maxLen ∧ Ls en k w w.heap.size A D ∧ ∃ E F, x.1 = .slice E F ∧ E.length = n ∧ E.length + F.length = m := by
  have hv : ∃ u : Value, v = u ∧ u.cells = #[u] := by
    rcases open_slice ht h with ⟨h1, _⟩ | ⟨a, len, cap, m, n, D, Pl, h1, _⟩
    · simp at h1; exact ⟨_, h1, rfl⟩
    · simp at h1; exact ⟨_, h1, rfl⟩
  obtain ⟨u, rfl, hc⟩ := hv
  exact open_ls en k ht hk hk0 hr hc (by rw [hc]; exact h)
theorem slI_of {x : DataW H × List MemPlace} {fuel : Nat} {v : Value} (h : DataW.trod enc Tryz.prog w base spare held fuel 27 [v] = some x) (hs : ∀ k ∈ x.1.weights Tryz.prog 27, k ≤ reachBytes) :
    ∃ A n c D, v = .slice A n c ∧ n = List.length D ∧ n * 32 ≤ 140737488351232 ∧ Ls It.enc 2 w w.heap.size A D := by
  rcases open_ls1 It.enc 2 Tryz.underlying27 cIt (by decide) (fun n cs y hl h => readI hl h) h with ⟨h1, h2⟩ | ⟨A, n, c, m, D, h1, h2, h3, h4, h5, E, F, h6, h7, h8⟩
  · exact ⟨none, 0, 0, [], h1, rfl, Nat.zero_le _, Ls.nil⟩
  · refine ⟨A, n, c, D, h1, h2, ?_, h5⟩
    have := hs ((E.length + F.length) * Tryz.prog.bytesOf 63) (by rw [h6]; simp [DataW.weights, Tryz.underlying27])
    rw [bIt, rB] at this
    omega
theorem slK_of {x : DataW H × List MemPlace} {fuel : Nat} {v : Value} (h : DataW.trod enc Tryz.prog w base spare held fuel 28 [v] = some x) (hs : ∀ k ∈ x.1.weights Tryz.prog 28, k ≤ reachBytes) :
    ∃ A n c D, v = .slice A n c ∧ n = List.length D ∧ n * 56 ≤ 140737488351232 ∧ Ls ecK 34 w w.heap.size A D ∧ ∀ x ∈ D, x.n < 256 ^ 4 ∧ x.hs.length = 32 := by
  rcases open_ls1 (fun x : KdW => ecK x.1) 34 Tryz.underlying28 cKd (by decide) (fun n cs y hl h => readK hl h) h with ⟨h1, h2⟩ | ⟨A, n, c, m, D, h1, h2, h3, h4, h5, E, F, h6, h7, h8⟩
  · exact ⟨none, 0, 0, [], h1, rfl, Nat.zero_le _, Ls.nil, fun x hx => (by cases hx)⟩
  · refine ⟨A, n, c, D.map (·.1), h1, by rw [List.length_map]; exact h2, ?_, ls_map (f := fun x : KdW => x.1) h5, fun x hx => ?_⟩
    · have := hs ((E.length + F.length) * Tryz.prog.bytesOf 45) (by rw [h6]; simp [DataW.weights, Tryz.underlying28])
      rw [bKd, rB] at this
      omega
    · obtain ⟨y, _, rfl⟩ := List.mem_map.1 hx
      exact y.2
theorem slV_of {x : DataW H × List MemPlace} {fuel : Nat} {v : Value} (h : DataW.trod enc Tryz.prog w base spare held fuel 29 [v] = some x) (hs : ∀ k ∈ x.1.weights Tryz.prog 29, k ≤ reachBytes) :
    ∃ A n c D, v = .slice A n c ∧ n = List.length D ∧ n * 88 ≤ 140737488351232 ∧ Ls ecV 37 w w.heap.size A D ∧ ∀ x ∈ D, x.kd < 256 ^ 1 ∧ x.bn < 256 ^ 8 ∧ x.rt < 256 ^ 4 ∧ x.hs.length = 32 := by
  rcases open_ls1 (fun x : VoW => ecV x.1) 37 Tryz.underlying29 cVo (by decide) (fun n cs y hl h => readV hl h) h with ⟨h1, h2⟩ | ⟨A, n, c, m, D, h1, h2, h3, h4, h5, E, F, h6, h7, h8⟩
  · exact ⟨none, 0, 0, [], h1, rfl, Nat.zero_le _, Ls.nil, fun x hx => (by cases hx)⟩
  · refine ⟨A, n, c, D.map (·.1), h1, by rw [List.length_map]; exact h2, ?_, ls_map (f := fun x : VoW => x.1) h5, fun x hx => ?_⟩
    · have := hs ((E.length + F.length) * Tryz.prog.bytesOf 121) (by rw [h6]; simp [DataW.weights, Tryz.underlying29])
      rw [bVo, rB] at this
      omega
    · obtain ⟨y, _, rfl⟩ := List.mem_map.1 hx
      exact y.2
/-- a node that came in -/
structure NdIn (w : World) (cs : Array Value) (n : Nd.Nd) : Prop where
  at_ : NdAt w cs n
  wd : Wd n
  I : n.I.length * 32 ≤ 140737488351232
  K : n.K.length * 56 ≤ 140737488351232
  V : n.V.length * 88 ≤ 140737488351232
theorem argN {r : Reach} {b0 : Nat} {v : Value} {d : DataW H} {p : List MemPlace} (hv : Value.okWide Tryz.prog w r b0 31 v) (h : DataW.Trod enc Tryz.prog w base spare held 31 v d p) (hs : ∀ k ∈ d.weights Tryz.prog 31, k ≤ reachBytes) :
    ∃ (n : Nd.Nd) (cs : Array Value), v = .agg cs ∧ NdIn w cs n := by
  obtain ⟨cs, rfl, hsz⟩ := okWide_struct Tryz.underlying31 hv
  obtain ⟨l⟩ := cs
  obtain ⟨fuel, hf⟩ := h
  have hl : l.length = 4 := hsz.trans cNd
  have hf : DataW.trod enc Tryz.prog w base spare held fuel 31 l = some (d, p) := by simpa [Value.cells] using hf
  obtain ⟨xs, m, _, hx, _, hxl, hq⟩ := DataW.trod_struct Tryz.underlying31 hf
  have g0 : DataW.trod enc Tryz.prog w base spare held m 26 ((l.drop 0).take (Tryz.prog.cellsOf 26)) = xs[0]? := hq 0 _ rfl
  have g1 : DataW.trod enc Tryz.prog w base spare held m 27 ((l.drop 1).take (Tryz.prog.cellsOf 27)) = xs[1]? := hq 1 _ rfl
  have g2 : DataW.trod enc Tryz.prog w base spare held m 28 ((l.drop 2).take (Tryz.prog.cellsOf 28)) = xs[2]? := hq 2 _ rfl
  have g3 : DataW.trod enc Tryz.prog w base spare held m 29 ((l.drop 3).take (Tryz.prog.cellsOf 29)) = xs[3]? := hq 3 _ rfl
  rw [cNK] at g0
  rw [cLI] at g1
  rw [cLK] at g2
  rw [cLV] at g3
  match l, hl with
  | [v0, v1, v2, v3], _ =>
    match xs, hxl with
    | [x0, x1, x2, x3], _ =>
      obtain ⟨z, e0, _, wz⟩ := DataW.trod_int Tryz.underlying26 (g0.trans rfl : _ = some x0)
      obtain ⟨k, rfl, hk⟩ := wf_u8 wz
      have hd : d = .agg [x0.1, x1.1, x2.1, x3.1] := congrArg Prod.fst hx
      have hw : ∀ (j : Nat) (t : TypeId) (y : DataW H), ([26, 27, 28, 29] : List TypeId)[j]? = some t → [x0.1, x1.1, x2.1, x3.1][j]? = some y → ∀ k ∈ y.weights Tryz.prog t, k ≤ reachBytes := fun j t y ht hy k hk => by
        refine hs k ?_
        rw [hd]
        have := DataW.weights_mem_each (P := Tryz.prog) ht hy k hk
        simpa [DataW.weights, Tryz.underlying31] using this
      obtain ⟨A1, n1, c1, D1, k1, k2, k3, k4⟩ := slI_of (x := x1) (g1.trans rfl) (hw 1 _ _ rfl rfl)
      obtain ⟨A2, n2, c2, D2, l1, l2, l3, l4, l5⟩ := slK_of (x := x2) (g2.trans rfl) (hw 2 _ _ rfl rfl)
      obtain ⟨A3, n3, c3, D3, m1, m2, m3, m4, m5⟩ := slV_of (x := x3) (g3.trans rfl) (hw 3 _ _ rfl rfl)
      have k1 : v1 = .slice A1 n1 c1 := by simpa using k1
      have l1 : v2 = .slice A2 n2 c2 := by simpa using l1
      have m1 : v3 = .slice A3 n3 c3 := by simpa using m1
      simp at e0
      refine ⟨⟨k, D1, D2, D3⟩, _, rfl, ⟨⟨A1, n1, c1, A2, n2, c2, A3, n3, c3, by rw [e0, k1, l1, m1], k2, l2, m2, by omega, by omega, by omega, k4, l4, m4⟩, ⟨l5, m5⟩, ?_, ?_, ?_⟩⟩
      · show D1.length * 32 ≤ _
        omega
      · show D2.length * 56 ≤ _
        omega
      · show D3.length * 88 ≤ _
        omega
theorem each {P : Program} {ts : List TypeId} {ds : List (DataW H)} (h : (DataW.weightsEach P ts ds).all (· ≤ reachBytes) = true) {j : Nat} {t : TypeId} {d : DataW H} (ht : ts[j]? = some t) (hd : ds[j]? = some d) : ∀ k ∈ d.weights P t, k ≤ reachBytes := fun k hk => by
  have := List.all_eq_true.1 h _ (DataW.weights_mem_each ht hd k hk)
  simpa using this
end
end Go.Proofs.YtlpejbbmemhloaaGreatDoor.Fr
/- What a laid array of words gives: its block, as a row. No word of the program here. -/
namespace Go.Proofs.YtlpejbbmemhloaaGreatDoor.Hk
set_option linter.unusedVariables false
theorem cells_of_trod {H : Type} {enc : TypeId × Value → H} {P : Program} {w : World} {base fuel n : Nat} {spare : Nat → Bool} {held : Bool} {T e : TypeId} {cs : List Value} {l : List (BitVec 32)} {p : List MemPlace}
    (hT : P.underlying T = some (.array n e)) (he : P.underlying e = some (.int .u32)) (hc : P.cellsOf e = 1) (hcT : P.cellsOf T = n)
    (h : DataW.trod enc P w base spare held fuel T cs = some (.agg (l.map fun x => .lit (.int .u32 (vN x))), p)) : cs = l.map fun x => Value.int .u32 (vN x) := by
  obtain ⟨xs, m, _, hx, hlen, hn, hel⟩ := DataW.trod_array hT h
  have hx1 : (l.map fun x => (DataW.lit (.int .u32 (vN x)) : DataW H)) = xs.map (·.1) := by
    have := congrArg Prod.fst hx
    simpa using this
  have hl : l.length = n := by have := congrArg List.length hx1; simp at this; omega
  apply List.ext_getElem
  · rw [List.length_map]; omega
  intro i h1 h2
  have hi : i < n := by omega
  have hd := hel i hi
  rw [hc, Nat.mul_one, List.getElem?_eq_getElem (by omega)] at hd
  obtain ⟨k, e1, e2, _⟩ := DataW.trod_int he hd
  have e3 : (DataW.lit (.int .u32 (vN (l[i]'(by omega)))) : DataW H) = (xs[i]'(by omega)).1 := by
    have := congrArg (fun z => z[i]?) hx1
    simpa [List.getElem?_eq_getElem (show i < l.length by omega), List.getElem?_eq_getElem (show i < xs.length by omega)] using this
  rw [e2] at e3
  have hk : k = vN (l[i]'(by omega)) := by simpa using e3.symm
  have e4 : cs[i] = .int .u32 k := by
    have := congrArg (fun z => z[0]?) e1
    simpa [List.getElem?_eq_getElem h1] using this
  rw [e4, hk, List.getElem_map]
theorem row_of_laid {P : Program} {w : World} {n : String} {g : Nat} {cs : Array Value} {l : List (BitVec 32)} {ps : List MemPlace} (hg : P.globalNamed n = some g) (hv : w.var? P n = some cs) (hcs : cs.toList = l.map fun x => Value.int .u32 (vN x)) (hl : 0 < l.length)
    (hps : ∀ b off, MemPlace.cell b off ∈ ps → ∃ c t, w.heap[b]? = some (.cells c t (0, 0))) (hsub : ∀ x ∈ MemPlace.row ⟨g, 0, none⟩ cs.size, x ∈ ps) : ∃ t, Row w g t l := by
  have hsz : cs.size = l.length := by rw [← Array.length_toList, hcs, List.length_map]
  have hmem : MemPlace.cell g 0 ∈ ps := hsub _ (by
    unfold MemPlace.row
    rw [List.mem_map]
    exact ⟨0, by rw [List.mem_range]; omega, by simp⟩)
  obtain ⟨c, t, hc⟩ := hps g 0 hmem
  have hv' := hv
  simp only [World.var?, hg, Option.bind_some, hc, Option.some.injEq] at hv'
  subst hv'
  refine ⟨t, ?_⟩
  show w.heap[g]? = some (.cells (arr l) t (0, 0))
  rw [hc]
  congr 2
  unfold arr
  rw [← hcs, Array.toArray_toList]
end Go.Proofs.YtlpejbbmemhloaaGreatDoor.Hk
/- A heap as an argument: how it is read, how much it has; what the condition gives of the two tables of the hash. -/
namespace Go.Proofs.YtlpejbbmemhloaaGreatDoor.Fr
set_option linter.unusedVariables false
set_option linter.unusedSimpArgs false
set_option maxRecDepth 100000
open Go.Joins Go.ChangeShapes Go.WideShapes Go.RowKit Go.Deep
open Ar Nd
open Hp (Ce ecC HIn)
/-- a cell that came in: what its numbers may be -/
structure CeW (c : Ce) : Prop where
  d : c.d.size ≤ maxLen
  num : c.num < 4294967296
  lo : -9223372036854775808 ≤ c.r
  hi : c.r ≤ 9223372036854775807
section
variable {H : Type} {enc : TypeId × Value → H} {w : World} {base : Nat} {spare : Nat → Bool} {held : Bool}
theorem cHp : Tryz.prog.cellsOf 25 = 2 := by kernel_rfl
theorem cCe : Tryz.prog.cellsOf 75 = 3 := by kernel_rfl
theorem cInt : Tryz.prog.cellsOf 3 = 1 := by kernel_rfl
theorem cLC : Tryz.prog.cellsOf 23 = 1 := by kernel_rfl
theorem bCe : Tryz.prog.bytesOf 75 = 32 := by kernel_rfl
theorem readCe {n : Nat} {cs : List Value} {y : DataW H × List MemPlace} (hl : cs.length = 3) (h : DataW.trod enc Tryz.prog w base spare held n 75 cs = some y) : ∃ x : { c : Ce // CeW c }, cs = ecC x.1 := by
  obtain ⟨xs, m, _, _, _, hxl, hf⟩ := DataW.trod_struct Tryz.underlying75 h
  have g0 : DataW.trod enc Tryz.prog w base spare held m 22 ((cs.drop 0).take (Tryz.prog.cellsOf 22)) = xs[0]? := hf 0 _ rfl
  have g1 : DataW.trod enc Tryz.prog w base spare held m 9 ((cs.drop 1).take (Tryz.prog.cellsOf 9)) = xs[1]? := hf 1 _ rfl
  have g2 : DataW.trod enc Tryz.prog w base spare held m 3 ((cs.drop 2).take (Tryz.prog.cellsOf 3)) = xs[2]? := hf 2 _ rfl
  rw [cU] at g0
  rw [cS] at g1
  rw [cInt] at g2
  match cs, hl with
  | [v0, v1, v2], _ =>
    match xs, hxl with
    | [x0, x1, x2], _ =>
      obtain ⟨z, e0, _, wz⟩ := DataW.trod_int Tryz.underlying22 (g0.trans rfl : _ = some x0)
      obtain ⟨s1, e1, _, l1⟩ := DataW.trod_string Tryz.underlying9 (g1.trans rfl : _ = some x1)
      obtain ⟨z2, e2, _, w2⟩ := DataW.trod_int Tryz.underlying3 (g2.trans rfl : _ = some x2)
      obtain ⟨k, rfl, hk⟩ := wf_u32 wz
      have h2 := wf_i64 w2
      simp at e0 e1 e2
      exact ⟨⟨⟨k, s1, z2⟩, ⟨l1, by show k < _; omega, h2.1, h2.2⟩⟩, by rw [e0, e1, e2]; rfl⟩
theorem slC_of {x : DataW H × List MemPlace} {fuel : Nat} {v : Value} (h : DataW.trod enc Tryz.prog w base spare held fuel 23 [v] = some x) (hs : ∀ k ∈ x.1.weights Tryz.prog 23, k ≤ reachBytes) :
    ∃ A n c L, v = .slice A n c ∧ HIn w A n L ∧ ∀ c ∈ L, CeW c := by
  rcases open_ls1 (fun x : { c : Ce // CeW c } => ecC x.1) 3 Tryz.underlying23 cCe (by decide) (fun n cs y hl h => readCe hl h) h with ⟨h1, h2⟩ | ⟨A, n, c, m, D, h1, h2, h3, h4, h5, E, F, h6, h7, h8⟩
  · exact ⟨none, 0, 0, [], h1, ⟨rfl, Nat.zero_le _, Ls.nil, fun c hc => by cases hc⟩, fun c hc => by cases hc⟩
  · refine ⟨A, n, c, D.map (·.1), h1, ⟨by rw [List.length_map]; exact h2, ?_, ls_map (f := fun x : { c : Ce // CeW c } => x.1) h5, fun c hc => ?_⟩, fun c hc => ?_⟩
    · have := hs ((E.length + F.length) * Tryz.prog.bytesOf 75) (by rw [h6]; simp [DataW.weights, Tryz.underlying23])
      rw [bCe, rB] at this
      omega
    · obtain ⟨y, _, rfl⟩ := List.mem_map.1 hc
      have := y.2.d
      unfold maxLen at this
      omega
    · obtain ⟨y, _, rfl⟩ := List.mem_map.1 hc
      exact y.2
/-- a heap that came in -/
theorem argHp {r : Reach} {b0 : Nat} {v : Value} {d : DataW H} {p : List MemPlace} (hv : Value.okWide Tryz.prog w r b0 25 v) (h : DataW.Trod enc Tryz.prog w base spare held 25 v d p) (hs : ∀ k ∈ d.weights Tryz.prog 25, k ≤ reachBytes) :
    ∃ (sz : Nat) (A : Option Addr) (n cap : Nat) (L : List Ce), v = .agg #[.int .u32 sz, .slice A n cap] ∧ HIn w A n L ∧ sz < 4294967296 ∧ ∀ c ∈ L, CeW c := by
  obtain ⟨cs, rfl, hsz⟩ := okWide_struct Tryz.underlying25 hv
  obtain ⟨l⟩ := cs
  obtain ⟨fuel, hf⟩ := h
  have hl : l.length = 2 := hsz.trans cHp
  have hf : DataW.trod enc Tryz.prog w base spare held fuel 25 l = some (d, p) := by simpa [Value.cells] using hf
  obtain ⟨xs, m, _, hx, _, hxl, hq⟩ := DataW.trod_struct Tryz.underlying25 hf
  have g0 : DataW.trod enc Tryz.prog w base spare held m 22 ((l.drop 0).take (Tryz.prog.cellsOf 22)) = xs[0]? := hq 0 _ rfl
  have g1 : DataW.trod enc Tryz.prog w base spare held m 23 ((l.drop 1).take (Tryz.prog.cellsOf 23)) = xs[1]? := hq 1 _ rfl
  rw [cU] at g0
  rw [cLC] at g1
  match l, hl with
  | [v0, v1], _ =>
    match xs, hxl with
    | [x0, x1], _ =>
      obtain ⟨z, e0, _, wz⟩ := DataW.trod_int Tryz.underlying22 (g0.trans rfl : _ = some x0)
      obtain ⟨k, rfl, hk⟩ := wf_u32 wz
      have hd : d = .agg [x0.1, x1.1] := congrArg Prod.fst hx
      have hw : ∀ (j : Nat) (t : TypeId) (y : DataW H), ([22, 23] : List TypeId)[j]? = some t → [x0.1, x1.1][j]? = some y → ∀ k ∈ y.weights Tryz.prog t, k ≤ reachBytes := fun j t y ht hy k hk => by
        refine hs k ?_
        rw [hd]
        have := DataW.weights_mem_each (P := Tryz.prog) ht hy k hk
        simpa [DataW.weights, Tryz.underlying25] using this
      obtain ⟨A1, n1, c1, L, k1, k2, k3⟩ := slC_of (x := x1) (g1.trans rfl) (hw 1 _ _ rfl rfl)
      have k1 : v1 = .slice A1 n1 c1 := by simpa using k1
      simp at e0
      exact ⟨k, A1, n1, c1, L, by rw [e0, k1], k2, by omega, k3⟩
end
/-- the tables that are laid -/
def laid : List (String × DataW Unit) := [("unicode/utf8.acceptRanges", Rows.laid_unicode_utf8_acceptRanges), ("cambium/hash.firstState", Rows.laid_cambium_hash_firstState), ("cambium/hash.roundWords", Rows.laid_cambium_hash_roundWords), ("unicode/utf8.first", Rows.laid_unicode_utf8_first)]
theorem gF : Tryz.prog.globalNamed "cambium/hash.firstState" = some 0 := by kernel_rfl
theorem gK : Tryz.prog.globalNamed "cambium/hash.roundWords" = some 1 := by kernel_rfl
theorem tF : (Tryz.prog.globals[0]?).map (·.type) = some 107 := by kernel_rfl
theorem tK : (Tryz.prog.globals[1]?).map (·.type) = some 151 := by kernel_rfl
theorem cW1 : Tryz.prog.cellsOf 22 = 1 := by kernel_rfl
theorem cS8 : Tryz.prog.cellsOf 107 = 8 := by kernel_rfl
theorem cK64 : Tryz.prog.cellsOf 151 = 64 := by kernel_rfl
theorem dF : (Rows.laid_cambium_hash_firstState : DataW Unit) = .agg (Hk.first.list.map fun x => .lit (.int .u32 (Hk.vN x))) := by kernel_rfl
theorem dK : (Rows.laid_cambium_hash_roundWords : DataW Unit) = .agg (Hk.kc.map fun x => .lit (.int .u32 (Hk.vN x))) := by kernel_rfl
/-- what the condition gives the walk: the two tables' blocks -/
theorem of_laid {W : World} (h : laidMetH Tryz.prog laid W) : ∃ tS tW, Hk.Row W 1 tW Hk.kc ∧ Hk.Row W 0 tS Hk.first.list := by
  rw [MakeChecks.laidMetH_plain _ _ _ (by kernel_rfl)] at h
  obtain ⟨ps, ⟨ga, ta, csa, fa, pa, qa, hga, hta, hva, hda, ⟨g0, t0, cs0, f0, p0, q0, hg0, ht0, hv0, hd0, ⟨g1, t1, cs1, f1, p1, q1, hg1, ht1, hv1, hd1, ⟨gb, tb, csb, fb, pb, qb, hgb, htb, hvb, hdb, hrb, hqb⟩, hq1⟩, hq0⟩, hqa⟩, _, hall⟩ := h
  obtain rfl := Option.some.inj (gF.symm.trans hg0)
  obtain rfl := Option.some.inj (gK.symm.trans hg1)
  obtain rfl := Option.some.inj (tF.symm.trans ht0)
  obtain rfl := Option.some.inj (tK.symm.trans ht1)
  rw [dF] at hd0
  rw [dK] at hd1
  have e0 := Hk.cells_of_trod Tryz.underlying107 Tryz.underlying22 cW1 cS8 hd0
  have e1 := Hk.cells_of_trod Tryz.underlying151 Tryz.underlying22 cW1 cK64 hd1
  have hps : ∀ b off, MemPlace.cell b off ∈ ps → ∃ c t, W.heap[b]? = some (.cells c t (0, 0)) := fun b off hm => (hall b off hm).1
  obtain ⟨tS, r0⟩ := Hk.row_of_laid hg0 hv0 e0 (by decide) hps (fun x hx => by rw [hqa, hq0]; simp [hx])
  obtain ⟨tW, r1⟩ := Hk.row_of_laid hg1 hv1 e1 (by decide) hps (fun x hx => by rw [hqa, hq0, hq1]; simp [hx])
  exact ⟨tS, tW, r1, r0⟩
/-- the tables, as the contracts ask for them -/
theorem kc_of {W : World} (h : laidMetH Tryz.prog laid W) : ∃ tK tS, Hp.Kc tK tS W.heap.size W := by
  obtain ⟨tS, tW, r1, r0⟩ := of_laid h
  exact ⟨tW, tS, r1, r0, Hk.Row.lt r1, Hk.Row.lt r0⟩
end Go.Proofs.YtlpejbbmemhloaaGreatDoor.Fr
