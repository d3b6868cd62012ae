/- Contracts of package dev's rightMedium, rightWaits, right, Check. -/
import Derived.Test.YtjkapmghifglcaaDoorDvM
namespace Go.Proofs.YtjkapmghifglcaaDoor.Dv
set_option linter.unusedVariables false
open Go.ChangeShapes Go.WideShapes Go.ChangeAt Go.RowKit
open Ar Rg St
open BigFrame
abbrev enc := Sb.enc
theorem below_drewN {B : Nat} {w w' : World} (h : Below B w w') (n : Nat) : Below B w (w'.drewN n) := ⟨h.os, h.tape, h.output, h.size, h.block⟩
def okM (N : Nat) (b : Bk) : Bool := hb b && okB N b
def upB : List Bk → Bool
  | a :: b :: r => lt a.n b.n && upB (b :: r)
  | _ => true
theorem upB_iff : ∀ D : List Bk, upB D = true ↔ UpK key D
  | [] => by simp [upB, UpK.nil]
  | [a] => by simp [upB, UpK.one]
  | a :: b :: r => by
    rw [upB, Bool.and_eq_true, upB_iff (b :: r)]
    constructor
    · rintro ⟨h1, h2⟩
      refine UpK.cons.2 ⟨fun y hy => ?_, h2⟩
      rcases List.mem_cons.1 hy with rfl | hy
      · exact h1
      · exact O.trans _ _ _ h1 ((UpK.cons.1 h2).1 y hy)
    · intro h
      exact ⟨(UpK.cons.1 h).1 b List.mem_cons_self, (UpK.cons.1 h).2⟩
def med (N : Nat) (D : List Bk) : Bool := upB D && D.all (okM N)
theorem med_iff {N : Nat} {D : List Bk} : med N D = true ↔ UpK key D ∧ ∀ b ∈ D, okM N b = true := by
  unfold med
  rw [Bool.and_eq_true, upB_iff, List.all_eq_true]
def wts (N : Nat) (D : List Bk) : Bool := decide (D.length ≤ 16384) && D.all (okB N)
def MAt (N : Nat) (D : List Bk) (i : Nat) : Prop := UpK key (D.take i) ∧ ∀ b ∈ D.take i, okM N b = true
section
variable {N : Nat} {D : List Bk} {i k : Nat} {x y : Bk}
theorem take_snocB (hx : D[i]? = some x) : D.take (i + 1) = D.take i ++ [x] := by rw [List.take_add_one, hx]; rfl
theorem MAt.zero (N : Nat) (D : List Bk) : MAt N D 0 := ⟨UpK.nil, by simp⟩
theorem MAt.first (hx : D[0]? = some x) (ho : okM N x = true) : MAt N D 1 := by
  unfold MAt
  rw [take_snocB hx]
  simp only [List.take_zero, List.nil_append]
  exact ⟨UpK.one _, by simpa using ho⟩
theorem MAt.more (h : MAt N D (k + 1)) (hy : D[k]? = some y) (hx : D[k + 1]? = some x) (hl : lt y.n x.n = true) (ho : okM N x = true) : MAt N D (k + 2) := by
  obtain ⟨h1, h2⟩ := h
  unfold MAt
  rw [take_snocB hx]
  refine ⟨UpK.append.2 ⟨h1, UpK.one _, fun a ha b hb' => ?_⟩, fun b hb' => ?_⟩
  · simp at hb'; subst hb'
    rw [take_snocB hy] at h1 ha
    rcases List.mem_append.1 ha with ha | ha
    · exact O.trans _ _ _ ((UpK.append.1 h1).2.2 a ha y (by simp)) hl
    · simp at ha; subst ha; exact hl
  · rcases List.mem_append.1 hb' with hb' | hb'
    · exact h2 b hb'
    · simp at hb'; subst hb'; exact ho
theorem MAt.done (h : MAt N D i) (hi : D.length ≤ i) : med N D = true := by
  unfold MAt at h
  rw [List.take_of_length_le hi] at h
  exact med_iff.2 h
theorem med_down (hy : D[k]? = some y) (hx : D[k + 1]? = some x) (hl : lt y.n x.n = false) : med N D = false := by
  rw [Bool.eq_false_iff]
  intro h
  have hu := (med_iff.1 h).1.sub (List.drop_sublist k D)
  rw [drop_at hy, drop_at hx] at hu
  have := (UpK.cons.1 hu).1 x List.mem_cons_self
  rw [show key y = y.n from rfl, show key x = x.n from rfl, hl] at this
  cases this
theorem med_bad (hx : D[i]? = some x) (ho : okM N x = false) : med N D = false := by
  rw [Bool.eq_false_iff]
  intro h
  rw [(med_iff.1 h).2 x (List.mem_of_getElem? hx)] at ho
  cases ho
end
set_option maxRecDepth 100000 in
set_option maxHeartbeats 2000000 in
theorem rightMedium_any (D : List Bk) (N : Nat) (A : Option Addr) (n cap B : Nat) (hn : n = D.length) (hm : n ≤ 281474976710656) (w : World) (hB : B ≤ w.heap.size) (hD : Ls enc 2 w B A D) :
    Calls Tryd.prog 51 #[.slice A n cap, .int .u32 N] w fun e w' => e = .returned (.bool (med N D)) ∧ Below w.heap.size w w' := by
  have HN := Lib.hid hn
  have HD := Lib.hid hD
  clear hn hD
  go_enter Tryd.func51, Tryd.ntmps51
  go_wp2_with fail
  go_loopw [9] (fun v wr => ∃ i : Nat, i ≤ n ∧ v = .int .i64 i ∧ Hid (MAt N D i) ∧ Hid (Below w.heap.size w wr)) (fun v _ => n - (intOf v).toNat)
  case atStart => exact ⟨0, Nat.zero_le _, by go_num, MAt.zero N D, Below.refl _ _⟩
  case round =>
    obtain ⟨i, hi, rfl, hrt, hbel⟩ := hrel
    by_cases hlt : i < n
    · obtain ⟨x, hx⟩ : ∃ x, D[i]? = some x := ⟨_, List.getElem?_eq_getElem (by rw [← HN.out]; exact hlt)⟩
      have hL := HD.out.below ((Hid.out hbel).mono hB)
      obtain ⟨b, o, hAe, hb0, hr⟩ := hL i x hx
      have hbs : b < wr.heap.size := Nat.lt_of_lt_of_le hb0 (Nat.le_trans hB (Hid.out hbel).size)
      have hc0 : wr.cell? ⟨b, o + i * 2, none⟩ = some (.int .u32 x.n) := hr 0 _ rfl
      have hc1 : wr.cell? ⟨b, o + i * 2 + 1, none⟩ = some (.string x.d) := hr 1 _ rfl
      have HL := Lib.hid hL
      clear hL hr
      subst hAe
      have HBN := Lib.hid (show Below w.heap.size w (wr.alloc (.cells #[.int .u32 x.n, .string x.d] 41)) from (Hid.out hbel).alloc (Hid.out hbel).size _)
      have hcx : (wr.alloc (.cells #[.int .u32 x.n, .string x.d] 41)).cell? ⟨wr.heap.size, 0, none⟩ = some (.int .u32 x.n) := by simp
      have hcv : (wr.alloc (.cells #[.int .u32 x.n, .string x.d] 41)).cell? ⟨wr.heap.size, 1, none⟩ = some (.string x.d) := by simp
      have HX := Lib.hid hx
      go_wp2_with fail
      by_cases hi0 : i = 0
      · subst hi0
        have HGO := Lib.hid (fun h => MAt.first (N := N) HX.out h)
        clear hx hi hrt
        generalize wr.alloc _ = W1 at *
        go_big_quiet (fail)
        have HB2 := Lib.hid (below_drewN HBN.out nq)
        clear HBN hbel
        cases he : x.d.toList.isEmpty
        · cases hq : okB N x
          · have HF := Lib.hid (med_bad (N := N) HX.out (show okM N x = false by unfold okM; rw [hq, Bool.and_false]))
            have HR := Lib.hid (rightBlock_any x N)
            rw [hq] at HR
            clear hq HX
            go_wp2_with (go_at_call 68; refine (HR.out _).mono ?_; rintro e w3 ⟨rfl, hb3⟩; have HB3 := Lib.hid (HB2.out.trans (hb3.mono HB2.out.size)); clear hb3)
            go_ret
            exact ⟨by rw [HF.out]; rfl, HB3.out⟩
          · have HRT := Lib.hid (HGO.out (show okM N x = true by unfold okM hb; rw [hq, he]; rfl))
            have HR := Lib.hid (rightBlock_any x N)
            rw [hq] at HR
            clear hq HX
            go_wp2_with (go_at_call 68; refine (HR.out _).mono ?_; rintro e w3 ⟨rfl, hb3⟩; have HB3 := Lib.hid (HB2.out.trans (hb3.mono HB2.out.size)); clear hb3)
            exact ⟨⟨1, by omega, by go_num, HRT.out, HB3.out⟩, by simp [intOf] <;> omega⟩
        · have HF := Lib.hid (med_bad (N := N) HX.out (show okM N x = false by unfold okM hb; rw [he]; rfl))
          clear HX
          go_wp2
          go_ret
          exact ⟨by rw [HF.out]; rfl, HB2.out⟩
      · obtain ⟨k, hk⟩ : ∃ k, i = k + 1 := ⟨i - 1, by omega⟩
        have hk1 : (i : Int) - 1 = (k : Int) := by omega
        have hk2 : decide ((0 : Int) < (i : Int)) = true := by rw [decide_eq_true_iff]; omega
        have hk3 : (k : Int) < (n : Int) := by omega
        obtain ⟨y, hy⟩ : ∃ y, D[k]? = some y := ⟨_, List.getElem?_eq_getElem (by rw [← HN.out]; omega)⟩
        obtain ⟨b2, o2, hAe, hb2, hr⟩ := HL.out k y hy
        cases hAe
        have hcy : (wr.alloc (.cells #[.int .u32 x.n, .string x.d] 41)).cell? ⟨b, o + k * 2, none⟩ = some (.int .u32 y.n) := by
          rw [World.cell?_alloc_lt _ _ _ hbs]
          exact hr 0 _ rfl
        subst hk
        clear hr
        by_cases hl : y.n < x.n
        · have q1 : decide ((x.n : Int) ≤ (y.n : Int)) = false := by rw [decide_eq_false_iff_not]; omega
          have q2 : decide (x.n ≤ y.n) = false := by rw [decide_eq_false_iff_not]; omega
          have HGO := Lib.hid (fun h => (Hid.out hrt).more hy HX.out (show lt y.n x.n = true by simp [Sb.nl]; exact hl) h)
          clear hx hrt hy hl
          generalize wr.alloc _ = W1 at *
          go_big_quiet (fail)
          have HB2 := Lib.hid (below_drewN HBN.out nq)
          clear HBN hbel
          cases he : x.d.toList.isEmpty
          · cases hq : okB N x
            · have HF := Lib.hid (med_bad (N := N) HX.out (show okM N x = false by unfold okM; rw [hq, Bool.and_false]))
              have HR := Lib.hid (rightBlock_any x N)
              rw [hq] at HR
              clear hq HX
              go_wp2_with (go_at_call 68; refine (HR.out _).mono ?_; rintro e w3 ⟨rfl, hb3⟩; have HB3 := Lib.hid (HB2.out.trans (hb3.mono HB2.out.size)); clear hb3)
              go_ret
              exact ⟨by rw [HF.out]; rfl, HB3.out⟩
            · have HRT := Lib.hid (HGO.out (show okM N x = true by unfold okM hb; rw [hq, he]; rfl))
              have HR := Lib.hid (rightBlock_any x N)
              rw [hq] at HR
              clear hq HX
              go_wp2_with (go_at_call 68; refine (HR.out _).mono ?_; rintro e w3 ⟨rfl, hb3⟩; have HB3 := Lib.hid (HB2.out.trans (hb3.mono HB2.out.size)); clear hb3)
              exact ⟨⟨k + 2, by omega, by go_num, HRT.out, HB3.out⟩, by simp [intOf] <;> omega⟩
          · have HF := Lib.hid (med_bad (N := N) HX.out (show okM N x = false by unfold okM hb; rw [he]; rfl))
            clear HX
            go_wp2
            go_ret
            exact ⟨by rw [HF.out]; rfl, HB2.out⟩
        · have q1 : decide ((x.n : Int) ≤ (y.n : Int)) = true := by rw [decide_eq_true_iff]; omega
          have q2 : decide (x.n ≤ y.n) = true := by rw [decide_eq_true_iff]; omega
          have HF := Lib.hid (med_down (N := N) hy HX.out (show lt y.n x.n = false by simp [Sb.nl]; omega))
          clear hx hrt hy hl
          generalize wr.alloc _ = W1 at *
          go_big_quiet (fail)
          have HB2 := Lib.hid (below_drewN HBN.out nq)
          clear HBN hbel
          go_wp2
          go_ret
          exact ⟨by rw [HF.out]; rfl, HB2.out⟩
    · have HF := Lib.hid ((Hid.out hrt).done (by rw [← HN.out]; omega))
      go_wp2
      go_ret
      exact ⟨by rw [HF.out]; rfl, Hid.out hbel⟩
def WAt (N : Nat) (D : List Bk) (i : Nat) : Prop := ∀ b ∈ D.take i, okB N b = true
theorem WAt.zero (N : Nat) (D : List Bk) : WAt N D 0 := fun b h => by simp at h
set_option maxRecDepth 100000 in
set_option maxHeartbeats 1000000 in
theorem rightWaits_any (D : List Bk) (N : Nat) (A : Option Addr) (n cap B : Nat) (hn : n = D.length) (hm : n ≤ 281474976710656) (w : World) (hB : B ≤ w.heap.size) (hD : Ls enc 2 w B A D) :
    Calls Tryd.prog 52 #[.slice A n cap, .int .u32 N] w fun e w' => e = .returned (.bool (wts N D)) ∧ Below w.heap.size w w' := by
  have HN := Lib.hid hn
  have HD := Lib.hid hD
  clear hn hD
  by_cases hle : n ≤ 16384
  · have q0 : decide ((16384 : Int) < (n : Int)) = false := by rw [decide_eq_false_iff_not]; omega
    have HW := Lib.hid (show wts N D = D.all (okB N) by unfold wts; rw [← HN.out, decide_eq_true hle, Bool.true_and])
    rw [HW.out]
    go_enter Tryd.func52, Tryd.ntmps52
    go_wp2_with fail
    go_loopw [12] (fun v wr => ∃ i : Nat, i ≤ n ∧ v = .int .i64 i ∧ Hid (WAt N D i) ∧ Hid (Below w.heap.size w wr)) (fun v _ => n - (intOf v).toNat)
    case atStart => exact ⟨0, Nat.zero_le _, by go_num, WAt.zero N D, Below.refl _ _⟩
    case round =>
      obtain ⟨i, hi, rfl, hrt, hbel⟩ := hrel
      by_cases hlt : i < n
      · obtain ⟨x, hx⟩ : ∃ x, D[i]? = some x := ⟨_, List.getElem?_eq_getElem (by rw [← HN.out]; exact hlt)⟩
        obtain ⟨b, o, hAe, hb0, hr⟩ := (HD.out.below ((Hid.out hbel).mono hB)) i x hx
        have hc0 : wr.cell? ⟨b, o + i * 2, none⟩ = some (.int .u32 x.n) := hr 0 _ rfl
        have hc1 : wr.cell? ⟨b, o + i * 2 + 1, none⟩ = some (.string x.d) := hr 1 _ rfl
        clear hr
        subst hAe
        have HBN := Lib.hid (show Below w.heap.size w (wr.alloc (.cells #[.int .u32 x.n, .string x.d] 41)) from (Hid.out hbel).alloc (Hid.out hbel).size _)
        have HR := Lib.hid (rightBlock_any x N)
        cases hq : okB N x
        · rw [hq] at HR
          have HF := Lib.hid (show D.all (okB N) = false by
            rw [Bool.eq_false_iff]
            intro h
            rw [List.all_eq_true.1 h x (List.mem_of_getElem? hx)] at hq
            cases hq)
          clear hq hx hrt
          go_wp2_with (go_at_call 68; refine (HR.out _).mono ?_; rintro e w3 ⟨rfl, hb3⟩; have HB3 := Lib.hid (HBN.out.trans (hb3.mono HBN.out.size)); clear hb3)
          go_ret
          exact ⟨by rw [HF.out]; rfl, HB3.out⟩
        · rw [hq] at HR
          have HG := Lib.hid (show WAt N D (i + 1) by
            unfold WAt
            rw [take_snocB hx]
            intro y hy
            rcases List.mem_append.1 hy with hy | hy
            · exact (Hid.out hrt) y hy
            · simp at hy; subst hy; exact hq)
          clear hq hx hrt
          go_wp2_with (go_at_call 68; refine (HR.out _).mono ?_; rintro e w3 ⟨rfl, hb3⟩; have HB3 := Lib.hid (HBN.out.trans (hb3.mono HBN.out.size)); clear hb3)
          exact ⟨⟨i + 1, by omega, by go_num, HG.out, HB3.out⟩, by simp [intOf] <;> omega⟩
      · have HF := Lib.hid (show D.all (okB N) = true by
          have h := Hid.out hrt
          unfold WAt at h
          rw [List.take_of_length_le (by rw [← HN.out]; omega)] at h
          exact List.all_eq_true.2 h)
        go_wp2
        go_ret
        exact ⟨by rw [HF.out]; rfl, Hid.out hbel⟩
  · have q0 : decide ((16384 : Int) < (n : Int)) = true := by rw [decide_eq_true_iff]; omega
    have HW := Lib.hid (show wts N D = false by unfold wts; rw [← HN.out, decide_eq_false hle, Bool.false_and])
    rw [HW.out]
    go_enter Tryd.func52, Tryd.ntmps52
    go_wp2
    go_ret
    exact ⟨rfl, Below.refl _ _⟩
end Go.Proofs.YtjkapmghifglcaaDoor.Dv
