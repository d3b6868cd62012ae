/- The document's right, Cut, sameBlocks, Same (where the two are one), Copy, put. -/
import Derived.Test.YtjkapmghifglcaaDoorDvX
namespace Go.Proofs.YtjkapmghifglcaaDoor.Dv
set_option linter.unusedVariables false
open Go.ChangeShapes Go.WideShapes Go.ChangeAt Go.RowKit
open Ar Rg St
open BigFrame
theorem emp_of {s : ByteArray} (h : 0 < s.size) : s.toList.isEmpty = false := by
  rw [Bool.eq_false_iff]
  intro e
  have h2 : s.toList = [] := List.isEmpty_iff.1 e
  rw [ByteArray.toList_eq] at h2
  have h3 : s.data.size = 0 := by rw [← Array.length_toList, h2]; rfl
  have h4 : s.size = 0 := h3
  omega
theorem lit_of {s : ByteArray} (h : ¬ 0 < s.size) : s = { data := #[] } := by
  obtain ⟨d⟩ := s
  congr
  exact Array.eq_empty_of_size_eq_zero (by have : ¬ 0 < d.size := h; omega)
def okT (s : ByteArray) : Bool := decide (s.size ≤ 512) && !sfx s
set_option maxRecDepth 100000 in
set_option maxHeartbeats 600000 in
theorem refRight_any (s : ByteArray) (w : World) :
    Calls Tryd.prog 41 #[.string s] w fun e w' => e = .returned (.bool (okT s)) ∧ w = w' := by
  by_cases h1 : s.size ≤ 512
  · have q1 : decide ((s.size : Int) ≤ 512) = true := decide_eq_true (by omega)
    by_cases h : 0 < s.size
    · have HF := Lib.hid (show okT s = !sfx s by unfold okT; rw [decide_eq_true h1]; rfl)
      have hemp := emp_of h
      have h2 : (0 : Int) ≤ (s.size : Int) - 1 := by omega
      have h3 : ((s.size : Int) - 1).toNat = s.size - 1 := by omega
      have h4 : s.size - 1 < s.size := by omega
      have HS := Lib.hid (sfx_at h)
      by_cases hz : s[s.size - 1] = 0
      · have hb : ((s[s.size - 1].toNat : Int) != 0) = false := by rw [hz]; rfl
        rw [HF.out, HS.out, decide_eq_true hz]
        clear hz
        go_enter Tryd.func41, Tryd.ntmps41
        go_wp2
        go_ret
        exact ⟨rfl, rfl⟩
      · have hb : ((s[s.size - 1].toNat : Int) != 0) = true := by
          rw [bne_iff_ne]
          intro e
          have e2 : s[s.size - 1].toNat = 0 := by omega
          exact hz (UInt8.toNat.inj e2)
        rw [HF.out, HS.out, decide_eq_false hz]
        clear hz
        go_enter Tryd.func41, Tryd.ntmps41
        go_wp2
        go_ret
        exact ⟨rfl, rfl⟩
    · obtain rfl := lit_of h
      go_enter Tryd.func41, Tryd.ntmps41
      go_wp2
      go_ret
      exact ⟨by rw [show okT { data := #[] } = true from rfl]; rfl, rfl⟩
  · have q1 : decide ((s.size : Int) ≤ 512) = false := decide_eq_false (by omega)
    have HF := Lib.hid (show okT s = false by unfold okT; rw [decide_eq_false h1]; rfl)
    rw [HF.out]
    go_enter Tryd.func41, Tryd.ntmps41
    go_wp2
    go_ret
    exact ⟨rfl, rfl⟩
set_option maxRecDepth 100000 in
set_option maxHeartbeats 600000 in
theorem refCut_any (s : ByteArray) (hs : s.size ≤ 9223372036854775807) (w : World) :
    Calls Tryd.prog 28 #[.string s] w fun e w' => e = .returned (.string (cutB s)) ∧ w = w' := by
  go_enter Tryd.func28, Tryd.ntmps28
  go_wp2_with fail
  go_loop [0] (fun v => ∃ t : ByteArray, t.size ≤ 9223372036854775807 ∧ v = .string t ∧ Hid (cutB t = cutB s)) (fun v => match v with | .string t => t.size | _ => 0)
  case atStart => exact ⟨s, hs, rfl, rfl⟩
  case round =>
    obtain ⟨t, ht, rfl, hc⟩ := hrel
    by_cases h0 : 0 < t.size
    · have hemp := emp_of h0
      have h2 : (0 : Int) ≤ (t.size : Int) - 1 := by omega
      have h3 : ((t.size : Int) - 1).toNat = t.size - 1 := by omega
      have h4 : t.size - 1 < t.size := by omega
      by_cases hz : t[t.size - 1] = 0
      · have HC := Lib.hid ((cutB_zero h0 hz).trans (Hid.out hc))
        have hb : ((t[t.size - 1].toNat : Int) == 0) = true := by rw [hz]; rfl
        have h5 : (t.extract 0 (t.size - 1)).size = t.size - 1 := by simp
        have H5 := Lib.hid h5
        clear hc hz h5
        go_wp2
        exact ⟨⟨_, by rw [H5.out]; omega, rfl, HC.out⟩, by show (t.extract 0 (t.size - 1)).size < t.size; rw [H5.out]; omega⟩
      · have HC := Lib.hid ((cutB_done h0 hz).symm.trans (Hid.out hc))
        have hb : ((t[t.size - 1].toNat : Int) == 0) = false := by
          rw [beq_eq_false_iff_ne]
          intro e
          have e2 : t[t.size - 1].toNat = 0 := by omega
          exact hz (UInt8.toNat.inj e2)
        clear hc hz
        go_wp2
        go_ret
        exact ⟨by rw [← HC.out]; rfl, rfl⟩
    · have HC := Lib.hid ((cutB_empty (show t.size = 0 by omega)).symm.trans (Hid.out hc))
      obtain rfl := lit_of h0
      clear hc
      go_wp2
      go_ret
      exact ⟨by rw [← HC.out]; rfl, rfl⟩
set_option maxRecDepth 100000 in
set_option maxHeartbeats 1000000 in
theorem sameB_true (D : List Bk) (A A' : Option Addr) (n c n' c' : Nat) (w : World) (hD : SlB w A n c D) (hE : SlB w A' n' c' D) (hm : n ≤ 281474976710656) :
    Calls Tryd.prog 40 #[.slice A n c, .slice A' n' c'] w fun e w' => e = .returned (.bool true) ∧ Below w.heap.size w w' := by
  obtain ⟨hn, -, -, B, hB, hD⟩ := hD
  obtain ⟨hn', -, -, B', hB', hE⟩ := hE
  have HN := Lib.hid hn
  obtain rfl : n' = n := by rw [hn, hn']
  have HD := Lib.hid hD
  have HE := Lib.hid hE
  clear hn hn' hD hE
  go_enter Tryd.func40, Tryd.ntmps40
  go_wp2_with fail
  go_loopw [13] (fun v wr => ∃ i : Nat, i ≤ n' ∧ v = .int .i64 i ∧ Hid (Below w.heap.size w wr)) (fun v _ => n' - (intOf v).toNat)
  case atStart => exact ⟨0, Nat.zero_le _, by go_num, Below.refl _ _⟩
  case round =>
    obtain ⟨i, hi, rfl, hbel⟩ := hrel
    by_cases hlt : i < n'
    · obtain ⟨x, hx⟩ : ∃ x, D[i]? = some x := ⟨_, List.getElem?_eq_getElem (by rw [← HN.out]; exact hlt)⟩
      obtain ⟨b, o, hAe, hb, hr⟩ := (HD.out.below ((Hid.out hbel).mono hB)) i x hx
      obtain ⟨b', o', hAe', hb', hr'⟩ := (HE.out.below ((Hid.out hbel).mono hB')) i x hx
      have hc0 : wr.cell? ⟨b, o + i * 2, none⟩ = some (.int .u32 x.n) := hr 0 _ rfl
      have hc1 : wr.cell? ⟨b, o + i * 2 + 1, none⟩ = some (.string x.d) := hr 1 _ rfl
      have hd0 : wr.cell? ⟨b', o' + i * 2, none⟩ = some (.int .u32 x.n) := hr' 0 _ rfl
      have hd1 : wr.cell? ⟨b', o' + i * 2 + 1, none⟩ = some (.string x.d) := hr' 1 _ rfl
      clear hr hr' hx
      subst hAe hAe'
      have he0 : ((x.n : Int) == (x.n : Int)) = true := by rw [beq_iff_eq]
      have he1 : (x.d.toList == x.d.toList) = true := by rw [beq_iff_eq]
      go_wp2_with fail
      go_big_quiet (fail)
      have HB2 := Lib.hid (below_drewN (Hid.out hbel) nq)
      clear hbel
      generalize World.drewN _ _ = W2 at *
      go_wp2
      exact ⟨⟨i + 1, by omega, by go_num, HB2.out⟩, by simp [intOf] <;> omega⟩
    · go_wp2
      go_ret
      exact ⟨rfl, Hid.out hbel⟩
set_option maxRecDepth 100000 in
set_option maxHeartbeats 1000000 in
theorem same_true (x : De) (v v' : Value) (w : World) (hv : DevAt w v x) (hv' : DevAt w v' x) :
    Calls Tryd.prog 21 #[v, v'] w fun e w' => e = .returned (.bool true) ∧ Below w.heap.size w w' := by
  obtain ⟨A, n, c, A', m, c', rfl, hD, hW, hn, hm, f1, f2⟩ := hv
  obtain ⟨A2, n2, c2, A2', m2, c2', rfl, hD2, hW2, hn2, hm2, -, -⟩ := hv'
  obtain ⟨R1, R2, S0, Z0⟩ := two_new w (devC x.N (.slice A n c) (.slice A' m c') x.dn x.fu) (devC x.N (.slice A2 n2 c2) (.slice A2' m2 c2') x.dn x.fu) 25 25
  have HD := Lib.hid (hD.below S0)
  have HW := Lib.hid (hW.below S0)
  have HD2 := Lib.hid (hD2.below S0)
  have HW2 := Lib.hid (hW2.below S0)
  have HS := Lib.hid S0
  have BX := Lib.hid (row_dev R1)
  have BX2 := Lib.hid (row_dev R2)
  have HZ := Lib.hid Z0
  have a0 := BX.out.c0
  have a1 := BX.out.c1
  have a2 := BX.out.c2
  have a3 := BX.out.c3
  have a4 := BX.out.c4
  have b0 := BX2.out.c0
  have b1 := BX2.out.c1
  have b2 := BX2.out.c2
  have b3 := BX2.out.c3
  have b4 := BX2.out.c4
  clear hD hW hD2 hW2 S0 R1 R2 Z0
  unfold devV
  go_enter Tryd.func21, Tryd.ntmps21
  go_wp2_with fail
  generalize (w.alloc _).alloc _ = W0 at *
  go_at_call 40
  refine (sameB_true x.D A A2 n c n2 c2 W0 HD.out HD2.out hn).mono ?_
  rintro e w1 ⟨rfl, hb1⟩
  have HB1 := Lib.hid (HS.out.trans (hb1.mono HS.out.size))
  have HW1 := Lib.hid (HW.out.below hb1)
  have HW21 := Lib.hid (HW2.out.below hb1)
  have q1 : w.heap.size < W0.heap.size := by rw [HZ.out]; omega
  have q2 : w.heap.size + 1 < W0.heap.size := by rw [HZ.out]; omega
  have BX1 := Lib.hid (BX.out.below hb1 q1)
  have BX21 := Lib.hid (BX2.out.below hb1 q2)
  have d2 := BX1.out.c2
  have d3 := BX1.out.c3
  have d4 := BX1.out.c4
  have e2 := BX21.out.c2
  have e3 := BX21.out.c3
  have e4 := BX21.out.c4
  clear hb1 a0 a1 a2 a3 a4 b0 b1 b2 b3 b4
  go_wp2_with fail
  go_at_call 40
  refine (sameB_true x.W A' A2' m c' m2 c2' w1 HW1.out HW21.out hm).mono ?_
  rintro e w2 ⟨rfl, hb2⟩
  have HB2 := Lib.hid (HB1.out.trans (hb2.mono HB1.out.size))
  have q3 : w.heap.size < w1.heap.size := World.block_lt_of_cell? _ ⟨w.heap.size, 0, none⟩ BX1.out.c0
  have q4 : w.heap.size + 1 < w1.heap.size := World.block_lt_of_cell? _ ⟨w.heap.size + 1, 0, none⟩ BX21.out.c0
  have BX3 := Lib.hid (BX1.out.below hb2 q3)
  have BX4 := Lib.hid (BX21.out.below hb2 q4)
  have g3 := BX3.out.c3
  have g4 := BX3.out.c4
  have i3 := BX4.out.c3
  have i4 := BX4.out.c4
  clear hb2 d2 d3 d4 e2 e3 e4
  go_wp2
  go_ret
  exact ⟨rfl, HB2.out⟩
/-- what has been put, whether the change has, what is left -/
def AtP (c : Ch) (D : List Itm) (i : Nat) (q : Bool) (O : List Itm) : Prop := O ++ donL c q (D.drop i) = don c D
theorem AtP.le {c : Ch} {D O : List Itm} {i : Nat} {q : Bool} (h : AtP c D i q O) : O.length ≤ D.length + 1 := by
  have h1 := congrArg List.length h
  rw [List.length_append] at h1
  have h2 : (don c D).length ≤ D.length + 1 := don_len c D
  omega
theorem AtP.step {c : Ch} {D O : List Itm} {i : Nat} {q : Bool} {x : Itm} (h : AtP c D i q O) (hx : D[i]? = some x) : AtP c D (i + 1) (q || !lt (key x) (ckey c)) (O ++ (if !q && !lt (key x) (ckey c) then [itm c] else []) ++ (if key x = ckey c then [] else [x])) := by
  unfold AtP at h ⊢
  rw [← h, drop_at hx, donL]
  simp only [List.append_assoc]
theorem O_ne {a b : Nat} (h : lt a b = true) : a ≠ b := O.ne h
theorem ls_new_at {α : Type} {en : α → List Value} {k : Nat} (w : World) (x : α) (e : TypeId) {N : Nat} (hN : w.heap.size = N) : Ls en k (w.alloc (.cells (en x).toArray e)) (N + 1) (some ⟨N, 0, none⟩) [x] := by
  subst hN
  exact Ls.new _ x _ _ (Nat.lt_succ_self _)
theorem ge_of {a b : Nat} (h : lt a b = true) : decide (b ≤ a) = false := by have : a < b := of_decide_eq_true h; exact decide_eq_false (by omega)
theorem ge_of' {a b : Nat} (h : lt a b = false) : decide (b ≤ a) = true := by have : ¬ a < b := of_decide_eq_false h; exact decide_eq_true (by omega)
theorem MkB_alloc {w wr : World} {v : Value} {D : List Itm} (h : MkB w wr v D) (o : Obj) : MkB w (wr.alloc o) v D := Mk.alloc h o
theorem AtP.done {c : Ch} {D O : List Itm} {i : Nat} {q : Bool} (h : AtP c D i q O) (hi : D.length ≤ i) : O ++ (if q then [] else [itm c]) = don c D := by
  unfold AtP at h
  rw [List.drop_eq_nil_of_le hi, donL] at h
  exact h
set_option linter.unusedSimpArgs false in
set_option maxRecDepth 100000 in
set_option maxHeartbeats 3000000 in
theorem refPut_any (D : List Itm) (z : Ch) (A : Option Addr) (n c B : Nat) (hn : n = D.length) (hlen : n ≤ 2199023255552) (w : World) (hB : B ≤ w.heap.size) (hD : Ls enc 2 w B A D) :
    Calls Tryd.prog 38 #[.slice A n c, .agg #[.int .u32 z.n, .string z.d]] w fun e w' => ∃ v, e = .returned v ∧ MkB w w' v (don z D) := by
  have HN := Lib.hid hn
  have hd0 : (w.alloc (.cells #[.int .u32 z.n, .string z.d] 41)).cell? ⟨w.heap.size, 0, none⟩ = some (.int .u32 z.n) := by simp
  have hd2 : (w.alloc (.cells #[.int .u32 z.n, .string z.d] 41)).cell? ⟨w.heap.size, 1, none⟩ = some (.string z.d) := by simp
  have HW := Lib.hid (show Below w.heap.size w (w.alloc (.cells #[.int .u32 z.n, .string z.d] 41)) from (Below.refl _ _).alloc (Nat.le_refl _) _)
  have hsz : w.heap.size < (w.alloc (.cells #[.int .u32 z.n, .string z.d] 41)).heap.size := by simp
  have HD := Lib.hid (hD.below (HW.out.mono hB))
  have hB0 : B ≤ (w.alloc (.cells #[.int .u32 z.n, .string z.d] 41)).heap.size := by omega
  obtain ⟨e, hemp⟩ : ∃ e, z.d.toList.isEmpty = e := ⟨_, rfl⟩
  have HEM := Lib.hid (show (!hb z) = e by unfold hb; rw [Bool.not_not]; exact hemp)
  clear hn hD
  go_enter Tryd.func38, Tryd.ntmps38
  go_wp2_with fail
  generalize w.alloc _ = W0 at *
  go_loopw [5, 6, 14] (fun ov qv v wr => ∃ (i : Nat) (q : Bool) (O : List Itm), i ≤ n ∧ v = .int .i64 i ∧ qv = .bool q ∧ Hid (AtP z D i q O) ∧ Hid (MkB W0 wr ov O)) (fun _ _ v _ => n - (intOf v).toNat)
  case atStart => exact ⟨0, e, [], Nat.zero_le _, by go_num, rfl, show [] ++ donL z e (D.drop 0) = don z D by rw [← HEM.out]; rfl, Mk.nil (Below.refl _ _)⟩
  case round =>
    obtain ⟨i, q, O, hi, rfl, rfl, hat, hm⟩ := hrel
    have hb0 : wr.cell? ⟨w.heap.size, 0, none⟩ = some (.int .u32 z.n) := ((Hid.out hm).2.cell (p := ⟨w.heap.size, 0, none⟩) hsz).trans hd0
    have hb2 : wr.cell? ⟨w.heap.size, 1, none⟩ = some (.string z.d) := ((Hid.out hm).2.cell (p := ⟨w.heap.size, 1, none⟩) hsz).trans hd2
    have hwr : w.heap.size < wr.heap.size := Nat.lt_of_lt_of_le hsz (Hid.out hm).2.size
    have hol : O.length ≤ 2199023255553 := by have h1 := (Hid.out hat).le; have h2 := HN.out; omega
    by_cases hlt : i < n
    · obtain ⟨x, hx⟩ : ∃ x, D[i]? = some x := ⟨_, List.getElem?_eq_getElem (by rw [← HN.out]; exact hlt)⟩
      obtain ⟨b, o, hAe, hb, hr⟩ := (HD.out.below ((Hid.out hm).2.mono hB0)) i x hx
      have hbs : b < wr.heap.size := Nat.lt_of_lt_of_le hb (Nat.le_trans hB0 (Hid.out hm).2.size)
      have hc0 : wr.cell? ⟨b, o + i * 2, none⟩ = some (.int .u32 x.n) := hr 0 _ rfl
      have hc1 : wr.cell? ⟨b, o + i * 2 + 1, none⟩ = some (.string x.d) := hr 1 _ rfl
      clear hr
      subst hAe
      have HM := Lib.hid (show MkB W0 (wr.alloc (.cells #[.int .u32 x.n, .string x.d] 41)) _ O from (Hid.out hm).alloc _)
      have hst := (Hid.out hat).step hx
      have hs := (Hid.out hm).2.size
      have hx0 : (wr.alloc (.cells #[.int .u32 x.n, .string x.d] 41)).cell? ⟨wr.heap.size, 0, none⟩ = some (.int .u32 x.n) := by simp
      have hx1 : (wr.alloc (.cells #[.int .u32 x.n, .string x.d] 41)).cell? ⟨wr.heap.size, 1, none⟩ = some (.string x.d) := by simp
      have ha0 : (wr.alloc (.cells #[.int .u32 x.n, .string x.d] 41)).cell? ⟨w.heap.size, 0, none⟩ = some (.int .u32 z.n) := by rw [World.cell?_alloc_lt _ _ _ hwr]; exact hb0
      have ha2 : (wr.alloc (.cells #[.int .u32 x.n, .string x.d] 41)).cell? ⟨w.heap.size, 1, none⟩ = some (.string z.d) := by rw [World.cell?_alloc_lt _ _ _ hwr]; exact hb2
      have hMR := hm
      clear hat hx
      cases hq : q
      · by_cases hl : lt (key x) (ckey z) = true
        · have hbl := ge_of hl
          by_cases hk : key x = ckey z
          · exact absurd hk (O_ne hl)
          · have he : ((x.n : Int) == (z.n : Int)) = false := by rw [beq_eq_false_iff_ne]; exact fun e => hk (Int.ofNat.inj e)
            rw [if_neg hk] at hst
            simp only [hq, hl, Bool.not_true, Bool.not_false, Bool.true_or, Bool.false_or, Bool.or_true, Bool.or_false, Bool.and_true, Bool.and_false, Bool.false_eq_true, if_true, if_false, List.append_nil] at hst
            have HST := Lib.hid hst
            clear hst hk
            go_wp2_with (at_builtin; refine catB (HM.out.alloc _) [x] (some ⟨wr.heap.size + 1, 0, none⟩) 1 1 rfl (ls_new_at _ (x) _ (by simp)) (by omega) rfl _ _ rfl rfl rfl ?_; intro v3 w3 hM hG; have Hv3 := Lib.hid hM; clear hM hG)
            exact ⟨⟨i + 1, false, O ++ [x], by omega, by go_num, rfl, HST.out, Hv3.out⟩, by simp [intOf] <;> omega⟩
        · have hl : lt (key x) (ckey z) = false := by simpa using hl
          have hbl := ge_of' hl
          by_cases hk : key x = ckey z
          · have he : ((x.n : Int) == (z.n : Int)) = true := by rw [beq_iff_eq]; exact congrArg Int.ofNat hk
            rw [if_pos hk] at hst
            simp only [hq, hl, Bool.not_true, Bool.not_false, Bool.true_or, Bool.false_or, Bool.or_true, Bool.or_false, Bool.and_true, Bool.and_false, Bool.false_eq_true, if_true, if_false, List.append_nil] at hst
            have HST := Lib.hid hst
            clear hst hk
            go_wp2_with (at_builtin; refine catB (HM.out.alloc _) [itm z] (some ⟨wr.heap.size + 1, 0, none⟩) 1 1 rfl (ls_new_at _ (itm z) _ (by simp)) (by omega) rfl _ _ rfl rfl rfl ?_; intro v3 w3 hM hG; have Hv3 := Lib.hid hM; have hy0 := (Hid.out hMR).keep hG (Nat.le_refl _) (show (World.alloc _ _).cell? ⟨wr.heap.size, 0, none⟩ = some (.int .u32 x.n) from by rw [World.cell?_alloc_lt _ _ _ (by simp)]; exact hx0); have hy1 := (Hid.out hMR).keep hG (Nat.le_refl _) (show (World.alloc _ _).cell? ⟨wr.heap.size, 1, none⟩ = some (.string x.d) from by rw [World.cell?_alloc_lt _ _ _ (by simp)]; exact hx1); have hz0 : w3.cell? ⟨w.heap.size, 0, none⟩ = some (.int .u32 z.n) := (hM.2.cell (p := ⟨w.heap.size, 0, none⟩) hsz).trans hd0; clear hM hG)
            exact ⟨⟨i + 1, true, O ++ [itm z], by omega, by go_num, rfl, HST.out, Hv3.out⟩, by simp [intOf] <;> omega⟩
          · have he : ((x.n : Int) == (z.n : Int)) = false := by rw [beq_eq_false_iff_ne]; exact fun e => hk (Int.ofNat.inj e)
            rw [if_neg hk] at hst
            simp only [hq, hl, Bool.not_true, Bool.not_false, Bool.true_or, Bool.false_or, Bool.or_true, Bool.or_false, Bool.and_true, Bool.and_false, Bool.false_eq_true, if_true, if_false, List.append_nil] at hst
            have HST := Lib.hid hst
            clear hst hk
            go_wp2_with (first | (at_builtin; refine catB (Hv3.out.alloc _) [x] _ 1 1 rfl (Ls.new _ (x) _ _ (Nat.lt_succ_self _)) (by simp only [List.length_append, List.length_singleton]; omega) rfl _ _ rfl rfl rfl ?_; intro v4 w4 hM hG; have Hv4 := Lib.hid hM; clear hM hG) | (at_builtin; refine catB (HM.out.alloc _) [itm z] (some ⟨wr.heap.size + 1, 0, none⟩) 1 1 rfl (ls_new_at _ (itm z) _ (by simp)) (by omega) rfl _ _ rfl rfl rfl ?_; intro v3 w3 hM hG; have Hv3 := Lib.hid hM; have hy0 := (Hid.out hMR).keep hG (Nat.le_refl _) (show (World.alloc _ _).cell? ⟨wr.heap.size, 0, none⟩ = some (.int .u32 x.n) from by rw [World.cell?_alloc_lt _ _ _ (by simp)]; exact hx0); have hy1 := (Hid.out hMR).keep hG (Nat.le_refl _) (show (World.alloc _ _).cell? ⟨wr.heap.size, 1, none⟩ = some (.string x.d) from by rw [World.cell?_alloc_lt _ _ _ (by simp)]; exact hx1); have hz0 : w3.cell? ⟨w.heap.size, 0, none⟩ = some (.int .u32 z.n) := (hM.2.cell (p := ⟨w.heap.size, 0, none⟩) hsz).trans hd0; clear hM hG))
            exact ⟨⟨i + 1, true, O ++ [itm z] ++ [x], by omega, by go_num, rfl, HST.out, Hv4.out⟩, by simp [intOf] <;> omega⟩
      · by_cases hl : lt (key x) (ckey z) = true
        · have hbl := ge_of hl
          by_cases hk : key x = ckey z
          · exact absurd hk (O_ne hl)
          · have he : ((x.n : Int) == (z.n : Int)) = false := by rw [beq_eq_false_iff_ne]; exact fun e => hk (Int.ofNat.inj e)
            rw [if_neg hk] at hst
            simp only [hq, hl, Bool.not_true, Bool.not_false, Bool.true_or, Bool.false_or, Bool.or_true, Bool.or_false, Bool.and_true, Bool.and_false, Bool.false_eq_true, if_true, if_false, List.append_nil] at hst
            have HST := Lib.hid hst
            clear hst hk
            go_wp2_with (at_builtin; refine catB (HM.out.alloc _) [x] (some ⟨wr.heap.size + 1, 0, none⟩) 1 1 rfl (ls_new_at _ (x) _ (by simp)) (by omega) rfl _ _ rfl rfl rfl ?_; intro v3 w3 hM hG; have Hv3 := Lib.hid hM; clear hM hG)
            exact ⟨⟨i + 1, true, O ++ [x], by omega, by go_num, rfl, HST.out, Hv3.out⟩, by simp [intOf] <;> omega⟩
        · have hl : lt (key x) (ckey z) = false := by simpa using hl
          have hbl := ge_of' hl
          by_cases hk : key x = ckey z
          · have he : ((x.n : Int) == (z.n : Int)) = true := by rw [beq_iff_eq]; exact congrArg Int.ofNat hk
            rw [if_pos hk] at hst
            simp only [hq, hl, Bool.not_true, Bool.not_false, Bool.true_or, Bool.false_or, Bool.or_true, Bool.or_false, Bool.and_true, Bool.and_false, Bool.false_eq_true, if_true, if_false, List.append_nil] at hst
            have HST := Lib.hid hst
            clear hst hk
            go_wp2
            exact ⟨⟨i + 1, true, O, by omega, by go_num, rfl, HST.out, HM.out⟩, by simp [intOf] <;> omega⟩
          · have he : ((x.n : Int) == (z.n : Int)) = false := by rw [beq_eq_false_iff_ne]; exact fun e => hk (Int.ofNat.inj e)
            rw [if_neg hk] at hst
            simp only [hq, hl, Bool.not_true, Bool.not_false, Bool.true_or, Bool.false_or, Bool.or_true, Bool.or_false, Bool.and_true, Bool.and_false, Bool.false_eq_true, if_true, if_false, List.append_nil] at hst
            have HST := Lib.hid hst
            clear hst hk
            go_wp2_with (at_builtin; refine catB (HM.out.alloc _) [x] (some ⟨wr.heap.size + 1, 0, none⟩) 1 1 rfl (ls_new_at _ (x) _ (by simp)) (by omega) rfl _ _ rfl rfl rfl ?_; intro v3 w3 hM hG; have Hv3 := Lib.hid hM; clear hM hG)
            exact ⟨⟨i + 1, true, O ++ [x], by omega, by go_num, rfl, HST.out, Hv3.out⟩, by simp [intOf] <;> omega⟩
    · have HO := Lib.hid ((Hid.out hat).done (by rw [← HN.out]; omega))
      have HM := Lib.hid ((Hid.out hm).since HW.out)
      have hm2 := hm
      clear hat hm
      cases hq : q
      · rw [hq] at HO
        go_wp2_with (at_builtin; refine catB (MkB_alloc (HM.out) _) [itm z] _ 1 1 rfl (Ls.new _ (itm z) _ _ (Nat.lt_succ_self _)) (by omega) rfl _ _ rfl rfl rfl ?_; intro v3 w3 hM3 hG3; have HM3 := Lib.hid hM3; clear hM3 hG3)
        go_ret
        exact ⟨_, rfl, by rw [← HO.out]; exact HM3.out⟩
      · rw [hq] at HO
        go_wp2
        go_ret
        exact ⟨_, rfl, by have := HO.out; rw [if_pos trivial, List.append_nil] at this; rw [← this]; exact HM.out⟩
end Go.Proofs.YtjkapmghifglcaaDoor.Dv
