/- Contracts of package dirs' exported functions. -/
import Derived.Test.YtngcogjjcidccaaGreatLs
import Derived.Test.YtngcogjjcidccaaGreatKyM
import Derived.Test.YtngcogjjcidccaaGreatItA
import Derived.Test.YtngcogjjcidccaaGreatPaA
import Derived.Test.YtngcogjjcidccaaGreatGb1
import Derived.Deep.Slices
import Derived.ChangeArms
import Derived.SliceStrings
import Derived.SizedLaws
import Derived.Lib.SmallJoins
namespace Go.Proofs.YtngcogjjcidccaaGreat.Di
set_option linter.unusedVariables false
set_option linter.unusedSimpArgs false
set_option maxRecDepth 100000
open Go.ChangeShapes Go.WideShapes Go.ChangeAt Go.RowKit
open BigFrame
open Ar Rg
open Ino
open It (Itm)
open Ph (en1 spX spB)
variable {w w' wr : World} {g bi be bn ba bu N M bb : Nat} {it o1 o2 o3 rv pv m1 m2 m3 m4 v : Value} {s s' : Vo} {ps : List Pt} {U : Nat → Option Unit}
/-- items that lie in memory -/
def ItA (w : World) (A : Option Addr) (n : Nat) (L : List Itm) : Prop := n = L.length ∧ n ≤ 1048576 ∧ Ls It.enc 2 w w.heap.size A L
theorem ItA.go {A : Option Addr} {n : Nat} {L : List Itm} (h : ItA w A n L) (hb : Below w.heap.size w w') : ItA w' A n L := ⟨h.1, h.2.1, (h.2.2.below hb).more hb.size⟩
theorem newV {A : Option Addr} {n : Nat} (c : Nat) {L : List Itm} (h : ItA w A n L) : VC (w.alloc (.cells #[.slice A n c, .int .u32 0, .int .i32 0, .int .u32 0, .bool false, .slice none 0 0, .map none, .map none, .map none, .map none] 61)) w.heap.size (.slice A n c) (.int .u32 0) (.int .i32 0) (.int .u32 0) (.bool false) (.slice none 0 0) (.map none) (.map none) (.map none) (.map none) ∧ Ls It.enc 2 (w.alloc (.cells #[.slice A n c, .int .u32 0, .int .i32 0, .int .u32 0, .bool false, .slice none 0 0, .map none, .map none, .map none, .map none] 61)) w.heap.size A L ∧ Below w.heap.size w (w.alloc (.cells #[.slice A n c, .int .u32 0, .int .i32 0, .int .u32 0, .bool false, .slice none 0 0, .map none, .map none, .map none, .map none] 61)) :=
  ⟨heap_alloc_new w _, h.2.2.below ((Below.refl _ _).alloc (Nat.le_refl _) _), (Below.refl _ _).alloc (Nat.le_refl _) _⟩
theorem below_off {w1 : World} (h : Below w.heap.size w w1) (ho : Off (fun j => j = w.heap.size) w1 w') : Below w.heap.size w w' := h.trans (ho.below h.size (fun j hj => by rw [hj]; exact Nat.le_refl _))
set_option maxHeartbeats 2000000 in
theorem Check_any {A : Option Addr} {n : Nat} (c : Nat) {L : List Itm} (h : ItA w A n L) :
    Calls Tryz.prog 13 #[.slice A n c] w fun e w' => e = .returned (.int .i64 (ckE L)) ∧ Below w.heap.size w w' := by
  have HN := Lib.hid (newV c h)
  have HC := Lib.hid (check_any L A n c HN.out.1 h.1 h.2.1 HN.out.2.1)
  clear h
  unfold CkPost at HC
  go_enter Tryz.func13, Tryz.ntmps13
  go_wp2_with (go_at_call 18; refine HC.out.mono ?_; rintro e w1 ⟨rfl, _, ho⟩; have HB := Lib.hid (below_off HN.out.2.2 ho); clear ho)
  go_ret
  exact ⟨rfl, HB.out⟩
set_option maxHeartbeats 2000000 in
theorem Get_any {A : Option Addr} {n : Nat} (c i : Nat) (hi : i < 4294967296) {L : List Itm} (h : ItA w A n L) :
    Calls Tryz.prog 6 #[.slice A n c, .int .u32 (i : Int)] w fun e w' => e = .returned (.tuple #[vI (gtI L i), .int .i64 (gtE L i)]) ∧ Below w.heap.size w w' := by
  have hal : Below w.heap.size w (w.alloc (.cells #[.int .u8 0, .int .u16 0, .int .u32 0, .int .u32 0, .string ⟨#[]⟩] 31)) := (Below.refl _ _).alloc (Nat.le_refl _) _
  have HB0 := Lib.hid hal
  have HR0 := Lib.hid (heap_alloc_new w (.cells #[.int .u8 0, .int .u16 0, .int .u32 0, .int .u32 0, .string ⟨#[]⟩] 31))
  have HN := Lib.hid (newV c (h.go hal))
  have HC := Lib.hid (get_any L A n c i hi HN.out.1 h.1 h.2.1 HN.out.2.1)
  unfold GtPost at HC
  obtain ⟨q, hq⟩ : ∃ q, gtI L i = q := ⟨_, rfl⟩
  rw [hq] at HC ⊢
  obtain ⟨nK, nM, nL, nS, nT⟩ := q
  generalize gtE L i = x at *
  have hz : (w.alloc (.cells #[.int .u8 0, .int .u16 0, .int .u32 0, .int .u32 0, .string ⟨#[]⟩] 31)).heap.size = w.heap.size + 1 := by simp
  have HZ := Lib.hid hz
  unfold vI at HC ⊢
  dsimp only at HC ⊢
  clear h hal hq hz
  go_enter Tryz.func6, Tryz.ntmps6
  go_wp2_with fail
  generalize w.alloc (.cells #[.int .u8 0, .int .u16 0, .int .u32 0, .int .u32 0, .string ⟨#[]⟩] 31) = W at *
  have hWz := HZ.out
  simp only [← hWz]
  go_at_call 23
  refine HC.out.mono ?_
  rintro e w1 ⟨rfl, _, ho⟩
  have HB1 := Lib.hid (HB0.out.trans ((below_off HN.out.2.2 ho).mono HB0.out.size))
  have HR1 := Lib.hid (((below_off HN.out.2.2 ho).block w.heap.size (by omega)).trans HR0.out)
  clear ho HC HN HR0 hWz
  go_wp2_with (refine wpList_store_row rfl 31 (.tmp 4) (.tmp 11) rfl w.heap.size #[.int .u8 nK, .int .u16 nM, .int .u32 nL, .int .u32 nS, .string nT] rfl rfl 31 #[.int .u8 0, .int .u16 0, .int .u32 0, .int .u32 0, .string ⟨#[]⟩] HR1.out (by kernel_rfl) rfl (row5 _ _ _ _ _) ?_)
  refine bodyPost_ret (v := .tuple #[.agg #[.int .u8 nK, .int .u16 nM, .int .u32 nL, .int .u32 nS, .string nT], .int .i64 x]) (results_row2 rfl _ _ w.heap.size 31 #[.int .u8 nK, .int .u16 nM, .int .u32 nL, .int .u32 nS, .string nT] (0, 0) _ rfl (setRow_heap' HR1.out) Tryz.underlying31 rfl (by kernel_rfl) _ rfl) rfl ?_
  exact ⟨rfl, below_setRow HB1.out (Nat.le_refl _) _⟩
/-- what Walk answers -/
noncomputable def wlk (L : List Itm) (fo : Bool) (names : List ByteArray) : Nat × Int := if rgt L then wkL (vo (pts L)) fo 8 1 names else (0, 9)
/-- names that lie in memory -/
def NmA (w : World) (A : Option Addr) (n c : Nat) (D : List ByteArray) : Prop := n = D.length ∧ n ≤ c ∧ c ≤ maxLen ∧ n ≤ 1048577 ∧ Ls en1 1 w w.heap.size A D ∧ ∀ x ∈ D, x.size ≤ maxLen
theorem NmA.go {A : Option Addr} {n c : Nat} {D : List ByteArray} (h : NmA w A n c D) (hb : Below w.heap.size w w') : NmA w' A n c D := ⟨h.1, h.2.1, h.2.2.1, h.2.2.2.1, (h.2.2.2.2.1.below hb).more hb.size, h.2.2.2.2.2⟩
set_option maxHeartbeats 2000000 in
theorem Walk_any {A A' : Option Addr} {n n' c' : Nat} (c : Nat) (fo : Bool) {L : List Itm} {names : List ByteArray} (h : ItA w A n L) (hN : NmA w A' n' c' names) :
    Calls Tryz.prog 4 #[.slice A n c, .slice A' n' c', .bool fo] w fun e w' => e = .returned (.tuple #[.int .u32 ((wlk L fo names).1 : Nat), .int .i64 (wlk L fo names).2]) ∧ Below w.heap.size w w' := by
  have HN := Lib.hid (newV c h)
  have HC := Lib.hid (check_any L A n c HN.out.1 h.1 h.2.1 HN.out.2.1)
  have HNM := Lib.hid hN
  unfold CkPost at HC
  have HCE := Lib.hid (show ckE L = if rgt L then 0 else 9 from rfl)
  obtain ⟨q, hq⟩ : ∃ q, wlk L fo names = q := ⟨_, rfl⟩
  rw [hq]
  have HQ := Lib.hid hq
  unfold wlk at HQ
  clear h hN hq
  cases hr : rgt L
  · rw [hr] at HQ HCE
    rw [HCE.out] at HC
    obtain rfl : (0, 9) = q := HQ.out
    clear hr
    go_enter Tryz.func4, Tryz.ntmps4
    go_wp2_with (go_at_call 18; refine HC.out.mono ?_; rintro e w1 ⟨rfl, _, ho⟩; have HB := Lib.hid (below_off HN.out.2.2 ho); clear ho)
    go_ret2
    exact ⟨rfl, HB.out⟩
  · rw [hr] at HQ HCE
    rw [HCE.out] at HC
    obtain ⟨R1, R2⟩ := q
    have HQ1 := Lib.hid (show wkL (vo (pts L)) fo 8 1 names = (R1, R2) from HQ.out)
    have HR := Lib.hid hr
    clear hr HQ
    dsimp only
    go_enter Tryz.func4, Tryz.ntmps4
    go_wp2_with (first
      | (go_at_call 18; refine HC.out.mono ?_; rintro e w1 ⟨rfl, hv, ho⟩; have HB := Lib.hid (below_off HN.out.2.2 ho); have HV := Lib.hid (hv HR.out); have HM1 := Lib.hid (HNM.out.go HB.out); clear ho hv)
      | (go_at_call 19; obtain ⟨bi, be, bn, ba, A1, c1, hV1, _⟩ := HV.out; have HWK := Lib.hid (walk_any hV1 fo names A' n' c' HM1.out.1 HM1.out.2.1 HM1.out.2.2.1 HM1.out.2.2.2.1 HM1.out.2.2.2.2.1 HM1.out.2.2.2.2.2 (fun i n hn => (hV1.m.ok.ino i n hn).2)); unfold WkPost at HWK; rw [HQ1.out] at HWK; refine HWK.out.mono ?_; rintro e w2 ⟨rfl, hb2⟩; have HB2 := Lib.hid (HB.out.trans (hb2.mono HB.out.size)); clear hb2 hV1))
    go_ret2
    exact ⟨rfl, HB2.out⟩
set_option maxHeartbeats 2000000 in
theorem Next_any {A : Option Addr} {n : Nat} (c : Nat) {L : List Itm} (h : ItA w A n L) :
    Calls Tryz.prog 10 #[.slice A n c] w fun e w' => ∃ j, e = .returned (.tuple #[.int .u32 (j : Nat), .int .i64 (ckE L)]) ∧ (if rgt L then Nx (vo (pts L)) j else j = 0) ∧ Below w.heap.size w w' := by
  have HN := Lib.hid (newV c h)
  have HC := Lib.hid (check_any L A n c HN.out.1 h.1 h.2.1 HN.out.2.1)
  have HLN := Lib.hid (show L.length ≤ 1048576 by have := h.1; have := h.2.1; omega)
  unfold CkPost at HC
  have HCE := Lib.hid (show ckE L = if rgt L then 0 else 9 from rfl)
  clear h
  cases hr : rgt L
  · rw [hr] at HCE
    rw [HCE.out] at HC
    clear hr
    go_enter Tryz.func10, Tryz.ntmps10
    go_wp2_with (go_at_call 18; refine HC.out.mono ?_; rintro e w1 ⟨rfl, _, ho⟩; have HB := Lib.hid (below_off HN.out.2.2 ho); clear ho)
    go_ret2
    exact ⟨0, by rw [HCE.out]; rfl, rfl, HB.out⟩
  · rw [hr] at HCE
    rw [HCE.out] at HC
    have HR := Lib.hid hr
    clear hr
    go_enter Tryz.func10, Tryz.ntmps10
    go_wp2_with (first
      | (go_at_call 18; refine HC.out.mono ?_; rintro e w1 ⟨rfl, hv, ho⟩; have HB := Lib.hid (below_off HN.out.2.2 ho); have HV := Lib.hid (hv HR.out); clear ho hv)
      | (go_at_call 27; obtain ⟨bi, be, bn, ba, A1, c1, hV1, _⟩ := HV.out; refine (next_any hV1 (by have := HLN.out; omega)).mono ?_; rintro e w2 ⟨j, rfl, hj, hb2⟩; have HJ := Lib.hid hj; have HB2 := Lib.hid (HB.out.trans (hb2.mono HB.out.size)); clear hj hb2 hV1))
    go_ret2
    exact ⟨j, by rw [HCE.out]; rfl, HJ.out, HB2.out⟩
/-- what List answers -/
noncomputable def lsX (L : List Itm) (i : Nat) : Int := if gtE L i ≠ 0 then gtE L i else if (gtI L i).K ≠ 1 then 12 else 0
noncomputable def lsL (L : List Itm) (i : Nat) : List En := if lsX L i = 0 then lsE (vo (pts L)) i (pts L) else []
theorem rgt_parts {L : List Itm} (h : rgt L = true) : ∀ p ∈ pts L, PtOk p ∧ okP p = true ∧ okK p.k = true := by
  have hr := rgt_iff.1 h
  exact pts_ok hr.rt hr.ok
theorem gtE_rgt {L : List Itm} {i : Nat} (h : gtE L i = 0) : rgt L = true := by
  unfold gtE at h
  cases hr : rgt L
  · rw [hr] at h; cases h
  · rfl
set_option maxHeartbeats 2000000 in
theorem List_any {A : Option Addr} {n : Nat} (c i : Nat) (hi : i < 4294967296) {L : List Itm} (h : ItA w A n L) :
    Calls Tryz.prog 8 #[.slice A n c, .int .u32 (i : Int)] w fun e w' => ∃ v, e = .returned (.tuple #[v, .int .i64 (lsX L i)]) ∧ MkE w w' v (lsL L i) := by
  have HN := Lib.hid (newV c h)
  have HC := Lib.hid (get_any L A n c i hi HN.out.1 h.1 h.2.1 HN.out.2.1)
  have HLN := Lib.hid (show L.length ≤ 1048576 by have := h.1; have := h.2.1; omega)
  unfold GtPost at HC
  have HX := Lib.hid (show lsX L i = if gtE L i ≠ 0 then gtE L i else if (gtI L i).K ≠ 1 then 12 else 0 from rfl)
  have HLL := Lib.hid (show lsL L i = if lsX L i = 0 then lsE (vo (pts L)) i (pts L) else [] from rfl)
  have HRG := Lib.hid (@gtE_rgt L i)
  obtain ⟨q, hq⟩ : ∃ q, gtI L i = q := ⟨_, rfl⟩
  obtain ⟨x, hx⟩ : ∃ x, gtE L i = x := ⟨_, rfl⟩
  rw [hq, hx] at HC HX
  rw [hx] at HRG
  obtain ⟨nK, nM, nL, nS, nT⟩ := q
  unfold vI at HC
  dsimp only at HC HX
  clear h hq hx
  by_cases hx0 : x = 0
  · have HXX := Lib.hid (show lsX L i = if nK ≠ 1 then 12 else 0 by rw [HX.out, if_neg (fun h => h hx0)])
    have e1 : (x != 0) = false := by rw [bne, eq0, decide_eq_true hx0]; rfl
    have HR := Lib.hid (HRG.out hx0)
    clear hx0
    have HAL := Lib.hid (fun (w1 : World) => heap_alloc_new w1 (.cells #[.int .u8 nK, .int .u16 nM, .int .u32 nL, .int .u32 nS, .string nT] 31))
    by_cases hk : nK = 1
    · have e2 : ((nK : Int) != 1) = false := by rw [bne, eqz1 (decide_eq_true hk)]; rfl
      have HX0 := Lib.hid (show lsX L i = 0 by rw [HXX.out, if_neg (fun h => h hk)])
      clear hk
      go_enter Tryz.func8, Tryz.ntmps8
      go_wp2_with (first
        | (go_at_call 23; refine HC.out.mono ?_; rintro e w1 ⟨rfl, hv, ho⟩; have HB := Lib.hid (below_off HN.out.2.2 ho); have hv1 := hv HR.out; have k0 : (w1.alloc (.cells #[.int .u8 nK, .int .u16 nM, .int .u32 nL, .int .u32 nS, .string nT] 31)).cell? ⟨w1.heap.size, 0, none⟩ = some (.int .u8 nK) := cell_of_row _ _ 0 _ _ _ (HAL.out w1); have HV := Lib.hid (hv1.go ((Below.refl _ _).alloc (Nat.le_refl _) (.cells #[.int .u8 nK, .int .u16 nM, .int .u32 nL, .int .u32 nS, .string nT] 31))); have HB1 := Lib.hid (HB.out.alloc HB.out.size (.cells #[.int .u8 nK, .int .u16 nM, .int .u32 nL, .int .u32 nS, .string nT] 31)); clear ho hv hv1)
        | (go_at_call 24; obtain ⟨bi, be, bn, ba, A1, c1, hV1, _, _, hL1, _⟩ := HV.out; refine (list_any A1 _ c1 i hV1 (pts_length L).symm HLN.out hL1 (fun p hp => (rgt_parts HR.out p hp).1)).mono ?_; rintro e w2 ⟨v2, rfl, hm2⟩; have HM2 := Lib.hid (hm2.since HB1.out); clear hm2 hV1 hL1))
      go_ret2
      exact ⟨v2, by rw [HX0.out]; rfl, by rw [HLL.out, if_pos HX0.out]; exact HM2.out⟩
    · have e2 : ((nK : Int) != 1) = true := by rw [bne, eqz1 (decide_eq_false hk)]; rfl
      have HX0 := Lib.hid (show lsX L i = 12 by rw [HXX.out, if_pos hk])
      clear hk
      go_enter Tryz.func8, Tryz.ntmps8
      go_wp2_with (first
        | (go_at_call 23; refine HC.out.mono ?_; rintro e w1 ⟨rfl, hv, ho⟩; have HB := Lib.hid (below_off HN.out.2.2 ho); have k0 : (w1.alloc (.cells #[.int .u8 nK, .int .u16 nM, .int .u32 nL, .int .u32 nS, .string nT] 31)).cell? ⟨w1.heap.size, 0, none⟩ = some (.int .u8 nK) := cell_of_row _ _ 0 _ _ _ (HAL.out w1); have HB1 := Lib.hid (HB.out.alloc HB.out.size (.cells #[.int .u8 nK, .int .u16 nM, .int .u32 nL, .int .u32 nS, .string nT] 31)); clear ho hv))
      go_ret2
      exact ⟨.slice none 0 0, by rw [HX0.out]; rfl, by rw [HLL.out, HX0.out, if_neg (by decide)]; exact Mk.nil HB1.out⟩
  · have e1 : (x != 0) = true := by rw [bne, eq0, decide_eq_false hx0]; rfl
    have HX0 := Lib.hid (show lsX L i = x by rw [HX.out, if_pos hx0])
    have HXN := Lib.hid hx0
    clear hx0
    go_enter Tryz.func8, Tryz.ntmps8
    go_wp2_with (first
      | (go_at_call 23; refine HC.out.mono ?_; rintro e w1 ⟨rfl, hv, ho⟩; have HB := Lib.hid (below_off HN.out.2.2 ho); have HB1 := Lib.hid (HB.out.alloc HB.out.size (.cells #[.int .u8 nK, .int .u16 nM, .int .u32 nL, .int .u32 nS, .string nT] 31)); clear ho hv))
    go_ret2
    exact ⟨.slice none 0 0, by rw [HX0.out]; rfl, by rw [HLL.out, HX0.out, if_neg HXN.out]; exact Mk.nil HB1.out⟩
/-- a new volume -/
def kR : Ky := ⟨1, 1, ⟨#[]⟩, 0⟩
def nR : In := ⟨1, 0, 1, 0, ⟨#[]⟩⟩
theorem kR_ok : okK kR = true := by decide
theorem nR_ok : okI nR = true := by decide
theorem kR_lim : kR.lim := ⟨by decide, by decide, by decide⟩
theorem nR_lim : nR.lim := ⟨by decide, by decide, by decide, by decide⟩
def rootI : Itm := ⟨wrK kR, wrI nR⟩
set_option maxHeartbeats 2000000 in
theorem New_any (w : World) : Calls Tryz.prog 16 #[] w fun e w' => ∃ A, e = .returned (.slice A 1 1) ∧ ItA w' A 1 [rootI] ∧ Below w.heap.size w w' := by
  have CK := Lib.hid (fun w => key_in kR kR_lim w)
  have CE := Lib.hid (fun w => encode_in nR nR_lim w)
  have h1 := chK_yes kR_ok
  have h2 := chI_yes nR_ok
  rw [h1.1, h1.2] at CK
  rw [h2.1, h2.2] at CE
  have HRT := Lib.hid (show rootI = ⟨wrK kR, wrI nR⟩ from rfl)
  generalize wrK kR = ks at *
  generalize wrI nR = vs at *
  unfold vK kR at CK
  unfold vI nR at CE
  dsimp only at CK CE
  clear h1 h2
  go_enter Tryz.func16, Tryz.ntmps16
  go_wp2_with (first
    | (go_at_call 31; refine (CK.out _).mono ?_; rintro e w1 ⟨rfl, hb1⟩; have HB1 := Lib.hid hb1; clear hb1)
    | (go_at_call 32; refine (CE.out _).mono ?_; rintro e w2 ⟨rfl, hb2⟩; have HB2 := Lib.hid (HB1.out.trans (hb2.mono HB1.out.size)); clear hb2))
  go_ret
  exact ⟨_, rfl, ⟨rfl, by decide, by
    rw [HRT.out]
    exact Ls.new (enc := It.enc) (k := 2) w2 ⟨ks, vs⟩ 72 _ (by simp)⟩, HB2.out.alloc HB2.out.size _⟩
end Go.Proofs.YtngcogjjcidccaaGreat.Di
/- What the laws of package dirs ask, as plain facts; a new volume; the laws' own question. -/
namespace Go.Proofs.YtngcogjjcidccaaGreat.Di
set_option linter.unusedVariables false
set_option linter.unusedSimpArgs false
set_option maxRecDepth 100000
open Go.ChangeShapes Go.WideShapes Go.ChangeAt Go.RowKit
open BigFrame
open Ar Rg
open Ino
open It (Itm)
open Ph (en1 en1_len spX spB)
variable {w w' wr : World} {g bi be bn ba bu N M bb : Nat} {s : Vo}
/-! a new volume -/
theorem root_pt : ptOf rootI = ⟨kR, wrI nR⟩ := by
  unfold ptOf rootI
  dsimp only
  rw [(deK_back kR_lim kR_ok).1]
def nA : ByteArray := ⟨#[97]⟩
def L0 : List Itm := [rootI]
theorem pts0 : pts L0 = [⟨kR, wrI nR⟩] := by
  unfold pts L0
  rw [List.map_cons, List.map_nil, root_pt]
theorem vo_0 : vo (pts L0) = takeI vo0 ⟨kR, wrI nR⟩ := by
  rw [pts0]
  show takeP vo0 ⟨kR, wrI nR⟩ = _
  exact if_pos (show (⟨kR, wrI nR⟩ : Pt).k.K = 1 from rfl)
theorem ino_0 (i : Nat) : (vo (pts L0)).ino i = if i = 1 then some nR else none := by
  rw [vo_0]
  show (if i = kR.I then some (deI (wrI nR)) else none) = _
  rw [(deI_back nR_lim nR_ok).1]
  rfl
theorem ent_0 (k : Ky) : (vo (pts L0)).ent k = none := by rw [vo_0]; rfl
theorem kind_0 : kind (vo (pts L0)) 1 = 1 := by
  unfold kind
  rw [ino_0, if_pos rfl]
  rfl
theorem rgt_0 : rgt L0 = true := by
  have hs : (wrK kR).size = 5 := by
    have h := wrK_pfx kR_ok
    rw [h.1, ByteArray.size_append, (pfx_ok kR_ok).2]
    rfl
  have hv : (wrI nR).size = 13 := by rw [wrI_size nR (by decide)]; rfl
  refine rgt_iff.2 ⟨?_, ?_, kind_0, ?_, ?_⟩
  · show It.rtFrom none [rootI] = true
    simp only [It.rtFrom, Bool.and_true]
    unfold It.okI It.okKey rootI
    dsimp only
    rw [hs, hv]
    decide
  · intro x hx
    obtain rfl : x = rootI := by simpa [L0] using hx
    unfold okX
    rw [root_pt]
    have h1 : deKE rootI.k = 0 := (deK_back kR_lim kR_ok).2
    rw [h1]
    unfold okP
    rw [if_pos (show (⟨kR, wrI nR⟩ : Pt).k.K = 1 from rfl)]
    dsimp only
    rw [(deI_back nR_lim nR_ok).2]
    rfl
  · intro p hp
    rw [pts0] at hp
    obtain rfl : p = ⟨kR, wrI nR⟩ := by simpa using hp
    unfold stray
    dsimp only
    rw [ino_0, if_pos (show kR.I = 1 from rfl)]
    rfl
  · intro i n hn hk
    rw [ino_0] at hn
    split at hn
    · rename_i h; rw [h]; exact Up.one _
    · cases hn
theorem rgt_nil : rgt [] = false := by
  rw [Bool.eq_false_iff]
  intro h
  have := (rgt_iff.1 h).root
  cases this
theorem gt_0 : gtI L0 1 = nR ∧ gtE L0 1 = 0 := by
  unfold gtI gtE
  rw [rgt_0, ino_0, if_pos rfl]
  exact ⟨rfl, rfl⟩
theorem wlk_0 : wlk L0 true [] = (1, 0) ∧ wlk L0 true [nA] = (0, 5) := by
  unfold wlk
  rw [rgt_0]
  refine ⟨wkL_nil _ _ _ _, ?_⟩
  rw [if_pos rfl, wkL_cons, if_neg (by rw [kind_0]; decide), ent_0]
theorem ls_0 : lsX L0 1 = 0 ∧ lsL L0 1 = [] := by
  have hx : lsX L0 1 = 0 := by
    unfold lsX
    rw [gt_0.2, gt_0.1]
    rfl
  refine ⟨hx, ?_⟩
  unfold lsL
  rw [hx, if_pos rfl, pts0]
  rfl
theorem nx_0 {j : Nat} (h : Nx (vo (pts L0)) j) : j = 2 := by
  obtain ⟨h1, h2, h3, h4⟩ := h
  by_cases e : j = 2
  · exact e
  · have := h4 2 (by omega) (by omega)
    rw [ino_0, if_neg (by decide)] at this
    cases this
theorem ck_0 : ckE L0 = 0 ∧ ckE [] = 9 := by
  unfold ckE
  rw [rgt_0, rgt_nil]
  exact ⟨rfl, rfl⟩
theorem nm_nil (w : World) : NmA w none 0 0 [] := ⟨rfl, by decide, by unfold maxLen; omega, by decide, Ls.nil, fun x hx => by cases hx⟩
theorem nm_one (w : World) (b : ByteArray) (hb : b.size ≤ maxLen) (t : TypeId) : NmA (w.alloc (.cells #[.string b] t)) (some ⟨w.heap.size, 0, none⟩) 1 1 [b] :=
  ⟨rfl, by decide, by unfold maxLen; omega, by decide, Ls.new (enc := en1) (k := 1) w b t _ (by simp), fun x hx => by
    obtain rfl : x = b := by simpa using hx
    exact hb⟩
set_option maxHeartbeats 4000000 in
theorem lives_any (w : World) : Calls Tryz.prog 12 #[] w fun e w' => e = .returned (.bool true) ∧ Below w.heap.size w w' := by
  have CN := Lib.hid (New_any w)
  have C1 := Lib.hid (fun (w : World) (A : Option Addr) (h : ItA w A 1 L0) => Get_any 1 1 (by decide) h)
  have C2 := Lib.hid (fun (w : World) (A : Option Addr) (h : ItA w A 1 L0) => Walk_any 1 true h (nm_nil w))
  have C3 := Lib.hid (fun (w : World) (A A' : Option Addr) (n' c' : Nat) (h : ItA w A 1 L0) (hn : NmA w A' n' c' [nA]) => Walk_any 1 true h hn)
  have C4 := Lib.hid (fun (w : World) (A : Option Addr) (h : ItA w A 1 L0) => List_any 1 1 (by decide) h)
  have C5 := Lib.hid (fun (w : World) (A : Option Addr) (h : ItA w A 1 L0) => Next_any 1 h)
  have C6 := Lib.hid (fun (w : World) (A : Option Addr) (h : ItA w A 1 L0) => Check_any 1 h)
  have C7 := Lib.hid (fun (w : World) => Check_any (w := w) (A := none) (n := 0) 0 (L := []) ⟨rfl, by decide, Ls.nil⟩)
  rw [gt_0.1, gt_0.2] at C1
  rw [wlk_0.1] at C2
  rw [wlk_0.2] at C3
  rw [ls_0.1, ls_0.2] at C4
  rw [ck_0.1] at C5 C6
  rw [ck_0.2] at C7
  have HR := Lib.hid rgt_0
  have HNX := Lib.hid (fun j (h : Nx (vo (pts L0)) j) => nx_0 h)
  unfold vI nR at C1
  dsimp only at C1 C2 C3
  have HN := Lib.hid (fun (w : World) => nm_one w nA (show (1 : Nat) ≤ maxLen by unfold maxLen; omega) 9)
  go_enter Tryz.func12, Tryz.ntmps12
  go_wp2_with fail
  refine CN.out.mono ?_
  rintro e w1 ⟨A, rfl, hA, hb1⟩
  have H1 := Lib.hid hA
  have B1 := Lib.hid hb1
  clear hA hb1 CN
  go_wp2_with fail
  refine (C1.out _ A H1.out).mono ?_
  rintro e w2 ⟨rfl, hb2⟩
  have hal2 := hb2.alloc hb2.size (.cells #[.int .u8 1, .int .u16 0, .int .u32 1, .int .u32 0, .string ⟨#[]⟩] 31)
  have k0 : (w2.alloc (.cells #[.int .u8 1, .int .u16 0, .int .u32 1, .int .u32 0, .string ⟨#[]⟩] 31)).cell? ⟨w2.heap.size, 0, none⟩ = some (.int .u8 1) := by simp
  have K0 := Lib.hid k0
  have HZ2 := Lib.hid (show w2.heap.size < (w2.alloc (.cells #[.int .u8 1, .int .u16 0, .int .u32 1, .int .u32 0, .string ⟨#[]⟩] 31)).heap.size by simp)
  have H2 := Lib.hid (H1.out.go hal2)
  have B2 := Lib.hid (B1.out.trans (hal2.mono B1.out.size))
  clear hb2 hal2 k0 H1 B1 C1
  go_wp2_with fail
  generalize w2.alloc (.cells #[.int .u8 1, .int .u16 0, .int .u32 1, .int .u32 0, .string ⟨#[]⟩] 31) = w2a at *
  refine (C2.out _ A H2.out).mono ?_
  rintro e w3 ⟨rfl, hb3⟩
  have H3 := Lib.hid (H2.out.go hb3)
  have B3 := Lib.hid (B2.out.trans (hb3.mono B2.out.size))
  have K3 := Lib.hid ((Below.cell hb3 (p := ⟨w2.heap.size, 0, none⟩) HZ2.out).trans K0.out)
  have Z3 := Lib.hid (Nat.lt_of_lt_of_le HZ2.out hb3.size)
  clear hb3 H2 B2 K0 HZ2 C2
  have hal3 : Below w3.heap.size w3 (w3.alloc (.cells #[.string nA] 9)) := (Below.refl _ _).alloc (Nat.le_refl _) _
  have N3 := Lib.hid (HN.out w3)
  have H4 := Lib.hid (H3.out.go hal3)
  have B4 := Lib.hid (B3.out.trans (hal3.mono B3.out.size))
  have K4 := Lib.hid ((Below.cell hal3 (p := ⟨w2.heap.size, 0, none⟩) Z3.out).trans K3.out)
  have Z4 := Lib.hid (Nat.lt_of_lt_of_le Z3.out hal3.size)
  clear hal3 H3 B3 K3 Z3 HN
  unfold nA at N3 H4 B4 K4 Z4 C3
  go_wp2_with fail
  generalize w3.alloc (.cells #[.string ⟨#[97]⟩] 9) = w4 at *
  refine (C3.out _ A _ 1 1 H4.out N3.out).mono ?_
  rintro e w5 ⟨rfl, hb5⟩
  have H5 := Lib.hid (H4.out.go hb5)
  have B5 := Lib.hid (B4.out.trans (hb5.mono B4.out.size))
  have K5 := Lib.hid ((Below.cell hb5 (p := ⟨w2.heap.size, 0, none⟩) Z4.out).trans K4.out)
  have Z5 := Lib.hid (Nat.lt_of_lt_of_le Z4.out hb5.size)
  clear hb5 H4 B4 K4 Z4 C3 N3
  go_wp2_with fail
  refine (C4.out _ A H5.out).mono ?_
  rintro e w6 ⟨v6, rfl, hm6⟩
  obtain ⟨A6, c6, rfl, _⟩ := hm6.ls encEn_len
  have hb6 := hm6.2
  have H6 := Lib.hid (H5.out.go hb6)
  have B6 := Lib.hid (B5.out.trans (hb6.mono B5.out.size))
  have K6 := Lib.hid ((Below.cell hb6 (p := ⟨w2.heap.size, 0, none⟩) Z5.out).trans K5.out)
  have Z6 := Lib.hid (Nat.lt_of_lt_of_le Z5.out hb6.size)
  clear hb6 hm6 H5 B5 K5 Z5 C4
  go_wp2_with fail
  refine (C5.out _ A H6.out).mono ?_
  rintro e w7 ⟨j, rfl, hj, hb7⟩
  rw [HR.out, if_pos rfl] at hj
  obtain rfl := HNX.out j hj
  have H7 := Lib.hid (H6.out.go hb7)
  have B7 := Lib.hid (B6.out.trans (hb7.mono B6.out.size))
  have K7 := Lib.hid ((Below.cell hb7 (p := ⟨w2.heap.size, 0, none⟩) Z6.out).trans K6.out)
  have Z7 := Lib.hid (Nat.lt_of_lt_of_le Z6.out hb7.size)
  have C6' := Lib.hid (C6.out w7 A H7.out)
  clear hb7 hj H6 B6 K6 Z6 C5 C6
  go_wp2_with (first
    | (go_at_call 13; refine C6'.out.mono ?_; rintro e w8 ⟨rfl, hb8⟩; have B8 := Lib.hid (B7.out.trans (hb8.mono B7.out.size)); have k8 : w8.cell? ⟨w2.heap.size, 0, none⟩ = some (.int .u8 1) := (Below.cell hb8 (p := ⟨w2.heap.size, 0, none⟩) Z7.out).trans K7.out; clear hb8)
    | (go_at_call 13; refine (C7.out _).mono ?_; rintro e w9 ⟨rfl, hb9⟩; have B9 := Lib.hid (B8.out.trans (hb9.mono B8.out.size)); clear hb9))
  go_ret
  exact ⟨rfl, B9.out⟩
end Go.Proofs.YtngcogjjcidccaaGreat.Di
/- How arguments are opened: slices whose elements are structs of plain cells; how the bound of a statement reaches their lengths. -/
namespace Go.Proofs.YtngcogjjcidccaaGreat.Fr
set_option linter.unusedVariables false
open Go.ChangeShapes Go.WideShapes Go.RowKit Go.Deep
open Ar
theorem list_of {α : Type} {p : Nat → α → Prop} : ∀ n : Nat, (∀ i, i < n → ∃ x, p i x) → ∃ D : List α, D.length = n ∧ ∀ i x, D[i]? = some x → p i x
  | 0, _ => ⟨[], rfl, fun i x h => by simp at h⟩
  | n + 1, h => by
    obtain ⟨D, h1, h2⟩ := list_of n fun i hi => h i (by omega)
    obtain ⟨y, hy⟩ := h n (by omega)
    refine ⟨D ++ [y], by simp [h1], fun i x hx => ?_⟩
    rcases Nat.lt_or_ge i n with hlt | hge
    · rw [List.getElem?_append_left (by omega)] at hx; exact h2 i x hx
    · rw [List.getElem?_append_right (by omega), h1] at hx
      have : i = n := by
        rcases Nat.lt_or_ge n i with h3 | h3
        · rw [List.getElem?_eq_none (by simp; omega)] at hx; cases hx
        · omega
      subst this
      simp at hx; subst hx; exact hy
section
variable {H : Type} {enc : TypeId × Value → H} {P : Program} {w : World} {base : Nat} {spare : Nat → Bool} {held : Bool}
theorem open_ls {α : Type} (en : α → List Value) (k : Nat) {t e : TypeId} {fuel : Nat} {v : Value} {x : DataW H × List MemPlace} (ht : P.underlying t = some (.slice e)) (hk : P.cellsOf e = k) (hk0 : 0 < k)
    (hr : ∀ n cs y, cs.length = k → DataW.trod enc P w base spare held n e cs = some y → ∃ x : α, cs = en x) (hv : v.cells = #[v]) (h : DataW.trod enc P w base spare held fuel t v.cells.toList = some x) :
    (v = .slice none 0 0 ∧ x.1 = .nil) ∨ ∃ A n c m D, v = .slice A n c ∧ n = List.length D ∧ n ≤ c ∧ c ≤ maxLen ∧ Ls en k w w.heap.size A D ∧ ∃ E F, x.1 = .slice E F ∧ E.length = n ∧ E.length + F.length = m := by
  rw [hv] at h
  rcases open_slice ht h with ⟨h1, h2⟩ | ⟨a, len, cap, m, n, D, Pl, hcs, hb, hl, hm, hmm, hx, hi⟩
  · left; simp at h1; exact ⟨h1, by rw [h2]⟩
  · right
    have hlm : len ≤ m := by rw [hmm]; split <;> omega
    simp at hcs
    rw [hk] at hi
    obtain ⟨L, hL1, hL2⟩ := list_of (α := α) (p := fun i x => ∃ b o, (some a : Option Addr) = some ⟨b, o, none⟩ ∧ b < w.heap.size ∧ w.rangeAt b (o + i * k) (en x)) len fun i hil => by
      have hspot : a.spot = none := by
        obtain ⟨cs', h1, h2⟩ := hi 0 (by omega)
        obtain ⟨_, hlen, hcell⟩ := World.cells?_some h1
        have hc0 := (hcell 0 hk0).trans (List.getElem?_eq_getElem (by omega))
        rw [add_add, Nat.zero_mul] at hc0
        have := World.cell?_spot hc0
        simpa [Addr.add] using this
      obtain ⟨cs', h1, h2⟩ := hi i (by omega)
      obtain ⟨_, hlen, hcell⟩ := World.cells?_some h1
      obtain ⟨x, rfl⟩ := hr _ _ _ hlen h2
      have hc0 := (hcell 0 hk0).trans (List.getElem?_eq_getElem (by omega))
      rw [add_add] at hc0
      obtain ⟨b, o, spot⟩ := a
      simp only at hspot
      subst hspot
      refine ⟨x, b, o, rfl, ?_, fun j u hu => ?_⟩
      · have := World.block_lt_of_cell? w _ hc0
        rw [Ar.add_plain] at this
        exact this
      · have hj : j < k := by rw [← hlen]; exact (List.getElem?_eq_some_iff.1 hu).1
        have := hcell j hj
        rw [add_add, Ar.add_plain, ← Nat.add_assoc, hu] at this
        exact this
    refine ⟨some a, len, cap, m, L, hcs, hL1.symm, hl, hm, hL2, (List.range len).map D, (List.range (m - len)).map fun j => D (len + j), by rw [hx], by simp, ?_⟩
    simp
    omega
end
end Go.Proofs.YtngcogjjcidccaaGreat.Fr
/- Names, inodes and keys as arguments: how they are read. -/
namespace Go.Proofs.YtngcogjjcidccaaGreat.Fr
set_option linter.unusedVariables false
set_option linter.unusedSimpArgs false
set_option maxRecDepth 100000
open Go.Joins Go.ChangeShapes Go.WideShapes Go.RowKit Go.Deep
open Ar
open Ino (In Ky)
open Ph (en1)
theorem bulk_one {H : Type} (d : DataW H) : 1 ≤ Rows.uptoBulk d := by
  cases d with
  | lit l => cases l <;> simp [Rows.uptoBulk]
  | _ => simp [Rows.uptoBulk]
theorem bulk_in {H : Type} {d : DataW H} : ∀ {l : List (DataW H)}, d ∈ l → Rows.uptoBulk d ≤ Rows.uptoBulkAll l
  | x :: r, h => by
    simp only [Rows.uptoBulkAll]
    rcases List.mem_cons.1 h with rfl | h
    · omega
    · have := bulk_in h; omega
/-- how many bytes some names have, each one counted as one more -/
def lens : List ByteArray → Nat
  | [] => 0
  | s :: r => s.size + 1 + lens r
theorem lens_len : ∀ l : List ByteArray, l.length ≤ lens l
  | [] => Nat.le_refl _
  | s :: r => by
    have := lens_len r
    simp only [lens, List.length_cons]
    omega
theorem bulk_strs {H : Type} : ∀ ss : List ByteArray, lens ss ≤ Rows.uptoBulkAll (strs (H := H) ss)
  | [] => Nat.zero_le _
  | s :: r => by
    have h1 := bulk_strs (H := H) r
    have h2 : s.data.toList.length = s.size := by rw [Array.length_toList]; rfl
    show s.size + 1 + lens r ≤ Rows.uptoBulkAll (DataW.lit (.string s.data.toList) :: strs (H := H) r)
    simp only [Rows.uptoBulkAll, Rows.uptoBulk]
    omega
theorem bulk_lens {H : Type} {l : List (DataW H)} (hk : Rows.uptoSmall H l = true) {d : DataW H} (hd : d ∈ l) {D : List ByteArray} (h : lens D ≤ Rows.uptoBulk d) : D.length ≤ 1048576 := by
  have h1 : Rows.uptoBulkAll l ≤ 1048576 := of_decide_eq_true hk
  have h2 := bulk_in hd
  have h3 := lens_len D
  omega
section
variable {H : Type} {enc : TypeId × Value → H} {w : World} {base : Nat} {spare : Nat → Bool} {held : Bool}
theorem argS {v : Value} {d : DataW H} {p : List MemPlace} (h : DataW.Trod enc Tryz.prog w base spare held 23 v d p) (hv : v.cells = #[v]) :
    ∃ A n c D, v = .slice A n c ∧ n = List.length D ∧ n ≤ c ∧ c ≤ maxLen ∧ Ls en1 1 w w.heap.size A D ∧ (∀ s ∈ D, s.size ≤ maxLen) ∧ lens D ≤ Rows.uptoBulk d := by
  obtain ⟨fuel, hf⟩ := h
  rw [hv] at hf
  rcases open_strings Tryz.underlying23 Tryz.underlying9 (by kernel_rfl) hf with ⟨hcs, hx⟩ | ⟨x, l, c, ss, hcs, _, hl, hm, hz, hx, hcell, hws⟩
  · simp at hcs
    exact ⟨none, 0, 0, [], hcs, rfl, Nat.le_refl _, Nat.zero_le _, Ls.nil, by simp, Nat.zero_le _⟩
  · simp at hcs
    have hsl : l ≤ ss.length := by rw [hz]; split <;> omega
    have hxs : x.spot = none ∨ ss.length = 0 := by
      rcases Nat.eq_zero_or_pos ss.length with h0 | h0
      · exact .inr h0
      · left
        have := World.cell?_spot (hcell 0 h0)
        simpa [Addr.add] using this
    refine ⟨some x, l, c, ss.take l, hcs, by rw [List.length_take]; omega, hl, hm, fun i s hs => ?_, fun s hs => hws s (List.mem_of_mem_take hs), ?_⟩
    · rw [List.getElem?_take] at hs
      split at hs
      · rename_i hil
        have hii : i < ss.length := by omega
        have hc := hcell i hii
        obtain ⟨b, o, spot⟩ := x
        rcases hxs with hspot | h0
        · simp only at hspot
          subst hspot
          refine ⟨b, o, rfl, ?_, fun j u hu => ?_⟩
          · have := World.block_lt_of_cell? w _ hc
            rw [Ar.add_plain] at this
            exact this
          · have hj : j < 1 := (List.getElem?_eq_some_iff.1 hu).1
            have : j = 0 := by omega
            subst this
            simp [en1] at hu
            subst hu
            rw [Ar.add_plain] at hc
            rw [Nat.mul_one, Nat.add_zero]
            rw [List.getD_eq_getElem?_getD, hs] at hc
            exact hc
        · omega
      · cases hs
    · have hb := bulk_strs (H := H) (ss.take l)
      have hd : d = .slice (strs (ss.take l)) (strs (ss.drop l)) := congrArg Prod.fst hx
      rw [hd]
      simp only [Rows.uptoBulk]
      omega
theorem wf_u {k : IntKind} {b : Nat} {z : Int} (hmin : k.min = 0) (hmax : k.max = (b : Int)) (h : (Lit.int k z).wf = true) : ∃ n : Nat, z = n ∧ n < b + 1 := by
  have h1 : k.min ≤ z ∧ z ≤ k.max := by simpa [Lit.wf] using h
  exact ⟨z.toNat, by omega, by omega⟩
theorem c32 : Tryz.prog.cellsOf 24 = 1 := by kernel_rfl
theorem c16 : Tryz.prog.cellsOf 29 = 1 := by kernel_rfl
theorem cSt : Tryz.prog.cellsOf 9 = 1 := by kernel_rfl
theorem cFK : Tryz.prog.cellsOf 28 = 1 := by kernel_rfl
theorem cKK : Tryz.prog.cellsOf 73 = 1 := by kernel_rfl
theorem cIn : Tryz.prog.cellsOf 31 = 5 := by kernel_rfl
theorem cKy : Tryz.prog.cellsOf 75 = 4 := by kernel_rfl
/-- an inode, a key, as values -/
def vI (n : In) : Value := .agg #[.int .u8 n.K, .int .u16 n.M, .int .u32 n.L, .int .u32 n.S, .string n.T]
def vK (k : Ky) : Value := .agg #[.int .u8 k.K, .int .u32 k.I, .string k.N, .int .u32 k.C]
/-- an argument that is an inode -/
theorem argIn {r : Reach} {b0 : Nat} {v : Value} {d : DataW H} {p : List MemPlace} (hv : Value.okWide Tryz.prog w r b0 31 v) (h : DataW.Trod enc Tryz.prog w base spare held 31 v d p) :
    ∃ n : In, v = vI n ∧ n.lim ∧ n.T.size ≤ maxLen := by
  obtain ⟨cs, rfl, hsz⟩ := okWide_struct Tryz.underlying31 hv
  obtain ⟨l⟩ := cs
  obtain ⟨fuel, hf⟩ := h
  have hl : l.length = 5 := hsz.trans cIn
  have hf' : DataW.trod enc Tryz.prog w base spare held fuel 31 l = some (d, p) := by simpa [Value.cells] using hf
  obtain ⟨xs, m, _, _, _, hxl, hg⟩ := DataW.trod_struct Tryz.underlying31 hf'
  have g0 : DataW.trod enc Tryz.prog w base spare held m 28 ((l.drop 0).take (Tryz.prog.cellsOf 28)) = xs[0]? := hg 0 _ rfl
  have g1 : DataW.trod enc Tryz.prog w base spare held m 29 ((l.drop 1).take (Tryz.prog.cellsOf 29)) = xs[1]? := hg 1 _ rfl
  have g2 : DataW.trod enc Tryz.prog w base spare held m 24 ((l.drop 2).take (Tryz.prog.cellsOf 24)) = xs[2]? := hg 2 _ rfl
  have g3 : DataW.trod enc Tryz.prog w base spare held m 24 ((l.drop 3).take (Tryz.prog.cellsOf 24)) = xs[3]? := hg 3 _ rfl
  have g4 : DataW.trod enc Tryz.prog w base spare held m 9 ((l.drop 4).take (Tryz.prog.cellsOf 9)) = xs[4]? := hg 4 _ rfl
  rw [cFK] at g0
  rw [c16] at g1
  rw [c32] at g2 g3
  rw [cSt] at g4
  match l, hl with
  | [v0, v1, v2, v3, v4], _ =>
    match xs, hxl with
    | [x0, x1, x2, x3, x4], _ =>
      obtain ⟨z0, e0, _, w0⟩ := DataW.trod_int Tryz.underlying28 (g0.trans rfl : _ = some x0)
      obtain ⟨z1, e1, _, w1⟩ := DataW.trod_int Tryz.underlying29 (g1.trans rfl : _ = some x1)
      obtain ⟨z2, e2, _, w2⟩ := DataW.trod_int Tryz.underlying24 (g2.trans rfl : _ = some x2)
      obtain ⟨z3, e3, _, w3⟩ := DataW.trod_int Tryz.underlying24 (g3.trans rfl : _ = some x3)
      obtain ⟨s4, e4, _, w4⟩ := DataW.trod_string Tryz.underlying9 (g4.trans rfl : _ = some x4)
      obtain ⟨k0, rfl, l0⟩ := wf_u (b := 255) rfl rfl w0
      obtain ⟨k1, rfl, l1⟩ := wf_u (b := 65535) rfl rfl w1
      obtain ⟨k2, rfl, l2⟩ := wf_u (b := 4294967295) rfl rfl w2
      obtain ⟨k3, rfl, l3⟩ := wf_u (b := 4294967295) rfl rfl w3
      simp at e0 e1 e2 e3 e4
      subst e0 e1 e2 e3 e4
      exact ⟨⟨k0, k1, k2, k3, s4⟩, rfl, ⟨by omega, by omega, by omega, by omega⟩, w4⟩
/-- an argument that is a key -/
theorem argKy {r : Reach} {b0 : Nat} {v : Value} {d : DataW H} {p : List MemPlace} (hv : Value.okWide Tryz.prog w r b0 75 v) (h : DataW.Trod enc Tryz.prog w base spare held 75 v d p) :
    ∃ k : Ky, v = vK k ∧ k.lim ∧ k.N.size ≤ maxLen := by
  obtain ⟨cs, rfl, hsz⟩ := okWide_struct Tryz.underlying75 hv
  obtain ⟨l⟩ := cs
  obtain ⟨fuel, hf⟩ := h
  have hl : l.length = 4 := hsz.trans cKy
  have hf' : DataW.trod enc Tryz.prog w base spare held fuel 75 l = some (d, p) := by simpa [Value.cells] using hf
  obtain ⟨xs, m, _, _, _, hxl, hg⟩ := DataW.trod_struct Tryz.underlying75 hf'
  have g0 : DataW.trod enc Tryz.prog w base spare held m 73 ((l.drop 0).take (Tryz.prog.cellsOf 73)) = xs[0]? := hg 0 _ rfl
  have g1 : DataW.trod enc Tryz.prog w base spare held m 24 ((l.drop 1).take (Tryz.prog.cellsOf 24)) = xs[1]? := hg 1 _ rfl
  have g2 : DataW.trod enc Tryz.prog w base spare held m 9 ((l.drop 2).take (Tryz.prog.cellsOf 9)) = xs[2]? := hg 2 _ rfl
  have g3 : DataW.trod enc Tryz.prog w base spare held m 24 ((l.drop 3).take (Tryz.prog.cellsOf 24)) = xs[3]? := hg 3 _ rfl
  rw [cKK] at g0
  rw [c32] at g1 g3
  rw [cSt] at g2
  match l, hl with
  | [v0, v1, v2, v3], _ =>
    match xs, hxl with
    | [x0, x1, x2, x3], _ =>
      obtain ⟨z0, e0, _, w0⟩ := DataW.trod_int Tryz.underlying73 (g0.trans rfl : _ = some x0)
      obtain ⟨z1, e1, _, w1⟩ := DataW.trod_int Tryz.underlying24 (g1.trans rfl : _ = some x1)
      obtain ⟨s2, e2, _, w2⟩ := DataW.trod_string Tryz.underlying9 (g2.trans rfl : _ = some x2)
      obtain ⟨z3, e3, _, w3⟩ := DataW.trod_int Tryz.underlying24 (g3.trans rfl : _ = some x3)
      obtain ⟨k0, rfl, l0⟩ := wf_u (b := 255) rfl rfl w0
      obtain ⟨k1, rfl, l1⟩ := wf_u (b := 4294967295) rfl rfl w1
      obtain ⟨k3, rfl, l3⟩ := wf_u (b := 4294967295) rfl rfl w3
      simp at e0 e1 e2 e3
      subst e0 e1 e2 e3
      exact ⟨⟨k0, k1, s2, k3⟩, rfl, ⟨by omega, by omega, by omega⟩, w2⟩
end
end Go.Proofs.YtngcogjjcidccaaGreat.Fr
/- Items beside names as arguments: how they are read; what the bound says of how many there are. -/
namespace Go.Proofs.YtngcogjjcidccaaGreat.Fr
set_option linter.unusedVariables false
set_option maxRecDepth 100000
open Go.Joins Go.ChangeShapes Go.WideShapes Go.RowKit Go.Deep
open Ar
theorem bulk_len {H : Type} : ∀ l : List (DataW H), l.length ≤ Rows.uptoBulkAll l
  | [] => Nat.zero_le _
  | d :: r => by
    have h1 := bulk_one d
    have h2 := bulk_len r
    simp only [Rows.uptoBulkAll, List.length_cons]
    omega
theorem bulk_slice {H : Type} {l : List (DataW H)} (hk : Rows.uptoSmall H l = true) {d : DataW H} (hd : d ∈ l) {E F : List (DataW H)} (he : d = .slice E F) : E.length ≤ 1048576 := by
  have h1 : Rows.uptoBulkAll l ≤ 1048576 := of_decide_eq_true hk
  have h2 := bulk_in hd
  subst he
  have h3 := bulk_len E
  simp only [Rows.uptoBulk] at h2
  omega
theorem bulk_string {H : Type} {l : List (DataW H)} (hk : Rows.uptoSmall H l = true) {s : List UInt8} (hd : DataW.lit (.string s) ∈ l) : s.length ≤ 1048576 := by
  have h1 : Rows.uptoBulkAll l ≤ 1048576 := of_decide_eq_true hk
  have h2 := bulk_in hd
  simp only [Rows.uptoBulk] at h2
  omega
section
variable {H : Type} {enc : TypeId × Value → H} {w : World} {base : Nat} {spare : Nat → Bool} {held : Bool}
theorem cS9 : Tryz.prog.cellsOf 9 = 1 := by kernel_rfl
theorem readI {n : Nat} {cs : List Value} {y : DataW H × List MemPlace} (hl : cs.length = 2) (h : DataW.trod enc Tryz.prog w base spare held n 72 cs = some y) : ∃ x : It.Itm, cs = It.enc x := by
  obtain ⟨xs, m, _, _, _, hxl, hf⟩ := DataW.trod_struct Tryz.underlying72 h
  have g0 : DataW.trod enc Tryz.prog w base spare held m 9 ((cs.drop 0).take (Tryz.prog.cellsOf 9)) = xs[0]? := hf 0 _ rfl
  have g1 : DataW.trod enc Tryz.prog w base spare held m 9 ((cs.drop 1).take (Tryz.prog.cellsOf 9)) = xs[1]? := hf 1 _ rfl
  rw [cS9] at g0 g1
  match cs, hl with
  | [v0, v1], _ =>
    match xs, hxl with
    | [x0, x1], _ =>
      obtain ⟨s0, e0, _⟩ := DataW.trod_string Tryz.underlying9 (g0.trans rfl : _ = some x0)
      obtain ⟨s1, e1, _⟩ := DataW.trod_string Tryz.underlying9 (g1.trans rfl : _ = some x1)
      simp at e0 e1
      exact ⟨⟨s0, s1⟩, by rw [e0, e1]; rfl⟩
theorem cI : Tryz.prog.cellsOf 72 = 2 := by kernel_rfl
/-- an argument that is a list of items -/
theorem argI {v : Value} {d : DataW H} {p : List MemPlace} (h : DataW.Trod enc Tryz.prog w base spare held 22 v d p) (hv : v.cells = #[v]) :
    ∃ A n c D, v = .slice A n c ∧ n = List.length D ∧ n ≤ c ∧ c ≤ maxLen ∧ Ls It.enc 2 w w.heap.size A D ∧ (n = 0 ∨ ∃ E F, d = .slice E F ∧ E.length = n) := by
  obtain ⟨fuel, hf⟩ := h
  rcases open_ls It.enc 2 Tryz.underlying22 cI (by decide) (fun n cs y hl h => readI hl h) hv hf with ⟨h1, h2⟩ | ⟨A, n, c, m, D, h1, h2, h3, h4, h5, E, F, h6, h7, _⟩
  · exact ⟨none, 0, 0, [], h1, rfl, Nat.le_refl _, Nat.zero_le _, Ls.nil, .inl rfl⟩
  · exact ⟨A, n, c, D, h1, h2, h3, h4, h5, .inr ⟨E, F, h6, h7⟩⟩
end
theorem u32_nat {n : Int} (h : (Lit.int .u32 n).wf = true) : ∃ m : Nat, n = (m : Int) ∧ m < 4294967296 := by
  have h1 : IntKind.u32.min = 0 := by decide
  have h2 : IntKind.u32.max = 4294967295 := by decide
  simp [Lit.wf, h1, h2] at h
  exact ⟨n.toNat, by omega, by omega⟩
end Go.Proofs.YtngcogjjcidccaaGreat.Fr
