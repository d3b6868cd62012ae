/- Package stream: the document's Cut; the walk of StreamCut. -/
import Derived.Test.YtjkmfonngbendaaGreatDoorRefC
import Derived.Test.YtjkmfonngbendaaGreatDoorGb4
import Derived.Test.YtjkmfonngbendaaGreatDoorSfL
namespace Go.Proofs.YtjkmfonngbendaaGreatDoor.Se
set_option linter.unusedVariables false
set_option linter.unusedSimpArgs false
set_option maxRecDepth 100000
open Go.ChangeShapes Go.WideShapes Go.ChangeAt Go.RowKit
open BigFrame
open Ar Rg
open Pk (be num be_length num_lt u8s u8s_length crc)
open Nd (S bs be_num)
open Di (ItA ckE rgt rgt_iff Check_any L0 rgt_0 rootI New_any)
open It (Itm Ch rt rc itm er MkI MkC app dif apply_any rt_iff okI UpK key same_any sm sm_iff)
open Hk (hashOf)
variable {tK tS : TypeId}
/-- what is cut off ends with its right sum -/
def cutB (l : List UInt8) (n : Nat) : Bool := decide (4 ≤ n) && decide (be 4 (crc (l.take (n - 4))).toNat = (l.take n).drop (n - 4))
theorem ex_mid (l : List UInt8) (a b : Nat) : (bs l).extract a b = bs ((l.take b).drop a) := by
  apply ByteArray.ext
  rw [ByteArray.data_extract]
  apply Array.toList_inj.1
  rw [Array.toList_extract, List.extract_eq_take_drop, List.drop_take]
  rfl
theorem cut_none {l : List UInt8} {n : Nat} (h : cutB l n = false) (hn : n ≤ l.length) : tkn (l.take n) = none := by
  have hl : (l.take n).length = n := by rw [List.length_take]; omega
  by_cases h4 : n < 4
  · unfold tkn
    rw [hl, if_pos h4]
  · refine tkn_sum ?_
    rw [hl, List.take_take, Nat.min_eq_left (by omega)]
    intro e
    have hd : ((l.take n).drop (n - 4)).length = 4 := by rw [List.length_drop, hl]; omega
    have q := be_num ((l.take n).drop (n - 4))
    rw [hd, e] at q
    unfold cutB at h
    rw [decide_eq_true (by omega : 4 ≤ n), decide_eq_true q] at h
    cases h
set_option maxHeartbeats 4000000 in
theorem cut_any (l : List UInt8) (hl : l.length ≤ 1099511627775) (n : Nat) (hn : n < l.length) (w : World) :
    Calls Tryz.prog 31 #[.string (bs l), .int .i64 n] w fun e w' => e = .returned (.bool (cutB l n)) ∧ Below w.heap.size w w' := by
  have hz : (bs l).size = l.length := rfl
  by_cases h4 : n < 4
  · have e : cutB l n = false := by unfold cutB; rw [decide_eq_false (by omega)]; rfl
    rw [e]
    have d1 : decide (4 ≤ (n : Int)) = false := by rw [decide_eq_false_iff_not]; omega
    clear e hn
    go_enter Tryz.func31, Tryz.ntmps31
    go_wp2_with fail
    refine wp_region_G (fun w' => Below w.heap.size w w') (by kernel_rfl) (by kernel_rfl) (Below.refl _ _).drew ?_
    refine wpG_val (.int .i64 n) rfl (by rfl) (fun w' hSw => by go_simp) ?_
    simp only [List.setIfInBounds_toArray, List.set_cons_zero, List.set_cons_succ]
    refine wpG_val (.bool false) rfl (by rfl) (fun w' hSw => by rw [show (.bool false : Value) = .bool (decide (4 ≤ (n : Int))) by rw [d1]]; go_simp) ?_
    simp only [List.setIfInBounds_toArray, List.set_cons_zero, List.set_cons_succ]
    refine wpG_val (.bool false) rfl (by rfl) (fun w' hSw => by go_simp) ?_
    simp only [List.setIfInBounds_toArray, List.set_cons_zero, List.set_cons_succ]
    refine wpG_skip rfl (by rfl) ?_
    simp only [List.setIfInBounds_toArray, List.set_cons_zero, List.set_cons_succ]
    refine wpG_skip rfl (by rfl) ?_
    simp only [List.setIfInBounds_toArray, List.set_cons_zero, List.set_cons_succ]
    refine wpG_skip rfl (by rfl) ?_
    simp only [List.setIfInBounds_toArray, List.set_cons_zero, List.set_cons_succ]
    refine wpG_skip rfl (by rfl) ?_
    simp only [List.setIfInBounds_toArray, List.set_cons_zero, List.set_cons_succ]
    refine wpG_val (.bool false) rfl (by rfl) (fun w' hSw => by go_simp) ?_
    simp only [List.setIfInBounds_toArray, List.set_cons_zero, List.set_cons_succ]
    refine wpG_val (.bool false) rfl (by rfl) (fun w' hSw => by go_simp) ?_
    simp only [List.setIfInBounds_toArray, List.set_cons_zero, List.set_cons_succ]
    refine wpG_skip rfl (by rfl) ?_
    simp only [List.setIfInBounds_toArray, List.set_cons_zero, List.set_cons_succ]
    refine wpG_skip rfl (by rfl) ?_
    simp only [List.setIfInBounds_toArray, List.set_cons_zero, List.set_cons_succ]
    refine wpG_skip rfl (by rfl) ?_
    simp only [List.setIfInBounds_toArray, List.set_cons_zero, List.set_cons_succ]
    refine wpG_skip rfl (by rfl) ?_
    simp only [List.setIfInBounds_toArray, List.set_cons_zero, List.set_cons_succ]
    refine wpG_skip rfl (by rfl) ?_
    simp only [List.setIfInBounds_toArray, List.set_cons_zero, List.set_cons_succ]
    refine wpG_skip rfl (by rfl) ?_
    simp only [List.setIfInBounds_toArray, List.set_cons_zero, List.set_cons_succ]
    refine wpG_skip rfl (by rfl) ?_
    simp only [List.setIfInBounds_toArray, List.set_cons_zero, List.set_cons_succ]
    refine wpG_skip rfl (by rfl) ?_
    simp only [List.setIfInBounds_toArray, List.set_cons_zero, List.set_cons_succ]
    refine wpG_skip rfl (by rfl) ?_
    simp only [List.setIfInBounds_toArray, List.set_cons_zero, List.set_cons_succ]
    refine wpG_skip rfl (by rfl) ?_
    simp only [List.setIfInBounds_toArray, List.set_cons_zero, List.set_cons_succ]
    refine wpG_skip rfl (by rfl) ?_
    simp only [List.setIfInBounds_toArray, List.set_cons_zero, List.set_cons_succ]
    refine wpG_skip rfl (by rfl) ?_
    simp only [List.setIfInBounds_toArray, List.set_cons_zero, List.set_cons_succ]
    refine wpG_skip rfl (by rfl) ?_
    simp only [List.setIfInBounds_toArray, List.set_cons_zero, List.set_cons_succ]
    refine wpG_val (.bool false) rfl (by rfl) (fun w' hSw => by go_simp) ?_
    simp only [List.setIfInBounds_toArray, List.set_cons_zero, List.set_cons_succ]
    refine wpG_val (.bool false) rfl (by rfl) (fun w' hSw => by go_simp) ?_
    simp only [List.setIfInBounds_toArray, List.set_cons_zero, List.set_cons_succ]
    refine wpG_nil ?_
    intro wS hSw
    go_wp2
    go_ret
    exact ⟨rfl, hSw⟩
  · obtain ⟨m, rfl⟩ : ∃ m, n = m + 4 := ⟨n - 4, by omega⟩
    have e : cutB l (m + 4) = decide (be 4 (crc (l.take m)).toNat = (l.take (m + 4)).drop m) := by unfold cutB; rw [decide_eq_true (by omega), Bool.true_and, Nat.add_sub_cancel]
    rw [e]
    obtain ⟨X, hX⟩ : ∃ X, bs l = X := ⟨_, rfl⟩
    have x1 : X.extract 0 m = bs (l.take m) := by rw [← hX]; exact ex_take l m (by omega)
    have x2 : X.extract m (m + 4) = bs ((l.take (m + 4)).drop m) := by rw [← hX]; exact ex_mid l m (m + 4)
    obtain ⟨B, hB⟩ : ∃ B, l.take m = B := ⟨_, rfl⟩
    obtain ⟨E, hE⟩ : ∃ E, (l.take (m + 4)).drop m = E := ⟨_, rfl⟩
    have hBl : B.length ≤ 1099511627775 := by rw [← hB, List.length_take]; omega
    rw [hB] at x1 ⊢
    rw [hE] at x2 ⊢
    have hXs : X.size = l.length := by rw [← hX, hz]
    have HP := Lib.hid (fun w => Pk.rsum_any (bs B) w (by show B.length ≤ _; omega))
    have e5 : (bs B).data.toList = B := rfl
    rw [e5] at HP
    have hq9 : (crc B).toNat < 4294967296 := (crc B).isLt
    obtain ⟨q, hq⟩ : ∃ q, (crc B).toNat = q := ⟨_, rfl⟩
    unfold Pk.vN at HP
    rw [hq] at HP hq9 ⊢
    have HRB := Lib.hid (fun w => Pk.ref_bytes q 4 w (by omega) (by omega))
    rw [show ((4 : Nat) : Int) = 4 from rfl] at HRB
    have y3 : IntKind.u64.wrap (q : Int) = (q : Int) := by simp [IntKind.wrap, IntKind.bits, IntKind.signed]; omega
    have y4 : ((be 4 q) == E) = decide (be 4 q = E) := by rw [Bool.eq_iff_iff, beq_iff_eq, decide_eq_true_iff]
    have y1 : ((m + 4 : Nat) : Int) - 4 = (m : Int) := by omega
    have hnx : m + 4 ≤ X.size := by omega
    have hmx : m ≤ X.size := by omega
    have hxl : X.size ≤ 1099511627775 := by omega
    have d1 : decide (4 ≤ ((m + 4 : Nat) : Int)) = true := by rw [decide_eq_true_iff]; omega
    rw [hX]
    have y5 : IntKind.i64.wrap (m : Int) = (m : Int) := by simp [IntKind.wrap, IntKind.bits, IntKind.signed]; omega
    clear e hn h4 hz hX hB hE hq e5 hXs hl
    go_enter Tryz.func31, Tryz.ntmps31
    go_wp2_with fail
    refine wp_region_G (fun w' => Below w.heap.size w w') (by kernel_rfl) (by kernel_rfl) (Below.refl _ _).drew ?_
    refine wpG_val (.int .i64 ((m + 4 : Nat) : Int)) rfl (by rfl) (fun w' hSw => by go_simp) ?_
    simp only [List.setIfInBounds_toArray, List.set_cons_zero, List.set_cons_succ]
    refine wpG_val (.bool true) rfl (by rfl) (fun w' hSw => by rw [show (.bool true : Value) = .bool (decide (4 ≤ ((m + 4 : Nat) : Int))) by rw [d1]]; go_simp) ?_
    simp only [List.setIfInBounds_toArray, List.set_cons_zero, List.set_cons_succ]
    refine wpG_val (.bool true) rfl (by rfl) (fun w' hSw => by go_simp) ?_
    simp only [List.setIfInBounds_toArray, List.set_cons_zero, List.set_cons_succ]
    refine wpG_val (.int .i64 ((m + 4 : Nat) : Int)) rfl (by rfl) (fun w' hSw => by go_simp) ?_
    simp only [List.setIfInBounds_toArray, List.set_cons_zero, List.set_cons_succ]
    refine wpG_val (.string X) rfl (by rfl) (fun w' hSw => by go_simp) ?_
    simp only [List.setIfInBounds_toArray, List.set_cons_zero, List.set_cons_succ]
    refine wpG_val (.int .i64 (X.size : Int)) rfl (by rfl) (fun w' hSw => by go_simp) ?_
    simp only [List.setIfInBounds_toArray, List.set_cons_zero, List.set_cons_succ]
    refine wpG_val (.bool true) rfl (by rfl) (fun w' hSw => by go_simp; omega) ?_
    simp only [List.setIfInBounds_toArray, List.set_cons_zero, List.set_cons_succ]
    refine wpG_val (.bool true) rfl (by rfl) (fun w' hSw => by go_simp) ?_
    simp only [List.setIfInBounds_toArray, List.set_cons_zero, List.set_cons_succ]
    refine wpG_val (.bool true) rfl (by rfl) (fun w' hSw => by go_simp) ?_
    simp only [List.setIfInBounds_toArray, List.set_cons_zero, List.set_cons_succ]
    refine wpG_val (.string X) rfl (by rfl) (fun w' hSw => by go_simp) ?_
    simp only [List.setIfInBounds_toArray, List.set_cons_zero, List.set_cons_succ]
    refine wpG_val (.int .i64 ((m + 4 : Nat) : Int)) rfl (by rfl) (fun w' hSw => by go_simp) ?_
    simp only [List.setIfInBounds_toArray, List.set_cons_zero, List.set_cons_succ]
    refine wpG_val (.int .i64 (m : Int)) rfl (by rfl) (fun w' hSw => by go_simp) ?_
    simp only [List.setIfInBounds_toArray, List.set_cons_zero, List.set_cons_succ]
    refine wpG_val (.string (bs B)) rfl (by rfl) (fun w' hSw => by go_simp) ?_
    simp only [List.setIfInBounds_toArray, List.set_cons_zero, List.set_cons_succ]
    refine wpG_call (.int .u32 (q : Int)) 63 #[.string (bs B)] rfl (by rfl) (fun w' => by go_simp) (fun w' hSw => (HP.out w').mono fun e w2 h => ⟨h.1, by rw [← h.2]; exact hSw⟩) ?_
    simp only [List.setIfInBounds_toArray, List.set_cons_zero, List.set_cons_succ]
    refine wpG_val (.int .u64 (q : Int)) rfl (by rfl) (fun w' hSw => by go_simp) ?_
    simp only [List.setIfInBounds_toArray, List.set_cons_zero, List.set_cons_succ]
    refine wpG_call (.string (bs (be 4 q))) 62 #[.int .u64 (q : Int), .int .i64 4] rfl (by rfl) (fun w' => by go_simp) (fun w' hSw => (HRB.out w').mono fun e w2 h => ⟨h.1, hSw.trans (h.2.mono hSw.size)⟩) ?_
    simp only [List.setIfInBounds_toArray, List.set_cons_zero, List.set_cons_succ]
    refine wpG_val (.string X) rfl (by rfl) (fun w' hSw => by go_simp) ?_
    simp only [List.setIfInBounds_toArray, List.set_cons_zero, List.set_cons_succ]
    refine wpG_val (.int .i64 ((m + 4 : Nat) : Int)) rfl (by rfl) (fun w' hSw => by go_simp) ?_
    simp only [List.setIfInBounds_toArray, List.set_cons_zero, List.set_cons_succ]
    refine wpG_val (.int .i64 (m : Int)) rfl (by rfl) (fun w' hSw => by go_simp) ?_
    simp only [List.setIfInBounds_toArray, List.set_cons_zero, List.set_cons_succ]
    refine wpG_val (.int .i64 ((m + 4 : Nat) : Int)) rfl (by rfl) (fun w' hSw => by go_simp) ?_
    simp only [List.setIfInBounds_toArray, List.set_cons_zero, List.set_cons_succ]
    refine wpG_val (.string (bs E)) rfl (by rfl) (fun w' hSw => by go_simp; rw [if_pos ⟨by omega, by omega⟩, if_pos (by omega), show ((m : Int) + 4).toNat = m + 4 by omega, x2]) ?_
    simp only [List.setIfInBounds_toArray, List.set_cons_zero, List.set_cons_succ]
    refine wpG_val (.bool (decide (be 4 q = E))) rfl (by rfl) (fun w' hSw => by go_simp; rw [ByteArray.toList_eq, ByteArray.toList_eq]; exact y4) ?_
    simp only [List.setIfInBounds_toArray, List.set_cons_zero, List.set_cons_succ]
    refine wpG_val (.bool (decide (be 4 q = E))) rfl (by rfl) (fun w' hSw => by go_simp) ?_
    simp only [List.setIfInBounds_toArray, List.set_cons_zero, List.set_cons_succ]
    refine wpG_val (.bool (decide (be 4 q = E))) rfl (by rfl) (fun w' hSw => by go_simp) ?_
    simp only [List.setIfInBounds_toArray, List.set_cons_zero, List.set_cons_succ]
    refine wpG_nil ?_
    intro wS hSw
    go_wp2
    go_ret
    exact ⟨rfl, hSw⟩
end Go.Proofs.YtjkmfonngbendaaGreatDoor.Se
/- Package stream: the walk of StreamCut. Written by mk_sfn.py. -/
namespace Go.Proofs.YtjkmfonngbendaaGreatDoor.Se
set_option linter.unusedVariables false
set_option linter.unusedSimpArgs false
set_option maxRecDepth 100000
open Go.ChangeShapes Go.WideShapes Go.ChangeAt Go.RowKit
open BigFrame
open Ar Rg
open Pk (be num be_length num_lt u8s u8s_length crc)
open Nd (S bs)
open Di (ItA ckE rgt rgt_iff Check_any L0 rgt_0 rootI New_any)
open It (Itm Ch rt rc itm er MkI MkC app dif apply_any rt_iff okI UpK key same_any sm sm_iff)
open Hk (hashOf)
variable {tK tS : TypeId}
theorem snd_len2 {F T : List Itm} (hl : F.length + T.length ≤ 4194304) : (sndS F T).length ≤ 1090000000000 := by
  unfold sndS
  split
  · rename_i h
    obtain ⟨d1, d2, d3⟩ := dif_ok (okb_rt h.1) (rgt_rt h.2)
    have h1 := flatC_len d2
    have h2 := It.dif_len F T
    rw [wrS_len]
    unfold wrB
    rw [List.length_append, List.length_append, List.length_append, be_length, hash32]
    simp only [List.length_cons, List.length_nil]
    omega
  · exact Nat.zero_le _
theorem head_no {x y : UInt8} {r : List UInt8} (h : ¬ (x = 67 ∧ y = 83)) (hr : 4 ≤ r.length) : tkn (x :: y :: r) = none := by
  refine tkn_head ?_
  obtain ⟨k, hk⟩ : ∃ k, (x :: y :: r).length - 4 = k + 2 := ⟨r.length - 4, by simp only [List.length_cons]; omega⟩
  rw [hk, List.take_succ_cons, List.take_succ_cons]
  show ((67 == x) && ((83 == y) && true)) = false
  rw [Bool.and_true, Bool.and_eq_false_iff]
  by_cases hx : x = 67
  · right
    rw [beq_eq_false_iff_ne]
    exact fun e => h ⟨hx, e.symm⟩
  · left
    rw [beq_eq_false_iff_ne]
    exact fun e => hx e.symm
theorem snd_head {F T : List Itm} (h1 : okb F = true) (h2 : rgt T = true) : ∃ r, sndS F T = 67 :: 83 :: r ∧ 4 ≤ r.length := by
  have e : sndS F T = wrS (hashOf (mkL F)) (dif F T) := if_pos ⟨h1, h2⟩
  refine ⟨_, e.trans rfl, ?_⟩
  simp only [List.append_eq, List.length_append, sumB_len]
  omega
theorem tkn_base {l H : List UInt8} {D : List Ch} (h : tkn l = some (H, D)) : H.length = 32 := by
  unfold tkn at h
  split at h
  · cases h
  · split at h
    · split at h
      · cases h
        exact base_len _
      · cases h
    · cases h
/-- with more ahead it is none, but by chance -/
theorem more_no {F T : List Itm} (h1 : okb F = true) (h2 : rgt T = true) (M : List UInt8) (hM : M ≠ []) (hC : ¬ (M.take 2 = [67, 83])) : basE (M ++ sndS F T) = 16 := by
  obtain ⟨r, hr, hl⟩ := snd_head h1 h2
  have : tkn (M ++ sndS F T) = none := by
    match M, hM, hC with
    | [x], _, _ =>
      rw [hr]
      exact head_no (fun h => absurd h.2 (by decide)) (by rw [List.length_cons]; omega)
    | x :: y :: M, _, hC =>
      exact head_no (fun h => hC (by rw [h.1, h.2]; rfl)) (by simp only [List.append_eq, List.length_append, hr, List.length_cons]; omega)
  unfold basE
  rw [this]
  rfl
set_option maxHeartbeats 8000000 in
theorem streamCut_walk {w : World} {A A' : Option Addr} {n m : Nat} (c c' : Nat) {F T : List Itm} (hF : ItA w A n F) (hT : ItA w A' m T) (hK : Kt tK tS w) (a : Int) (ha : -9223372036854775808 ≤ a ∧ a ≤ 9223372036854775807) (q : ByteArray) (hq : q.size ≤ 1048576) :
    Calls Tryz.prog 10 #[.slice A n c, .slice A' m c', .int .i64 a, .string q] w fun e w' => e = .returned (.bool true) ∧ Below w.heap.size w w' := by
  obtain ⟨M, hM, hMl⟩ : ∃ M : List UInt8, q = bs M ∧ M.length = q.size := ⟨q.data.toList, rfl, by rw [Array.length_toList]; rfl⟩
  subst hM
  have hqz : M.length ≤ 1048576 := by omega
  have HLV := Lib.hid (lives_true w hK)
  have HLN := Lib.hid (show F.length + T.length ≤ 4194304 by have := hF.1; have := hF.2.1; have := hT.1; have := hT.2.1; omega)
  have HSN := Lib.hid (fun w1 (B1 : Below w.heap.size w w1) => Send_any (tK := tK) (tS := tS) c c' (hF.go B1) (hT.go B1) (hK.go B1))
  clear hF hT hK hq hMl
  by_cases hr : okb F = true ∧ rgt T = true
  · rw [(tkn_snd hr.1 hr.2 HLN.out).1] at HSN
    have HSL := Lib.hid (snd_len2 HLN.out)
    have HMO := Lib.hid (more_no hr.1 hr.2 M)
    clear hr
    generalize sndS F T = l at HSN HSL HMO
    by_cases h0 : a < 0
    · clear ha hqz
      go_enter Tryz.func10, Tryz.ntmps10
      go_wp2_with fail
      (with_reducible refine HLV.out.mono ?_)
      rintro e w1 ⟨rfl, hb1⟩
      have B1 := Lib.hid hb1
      clear hb1
      go_wp2_with fail
      (with_reducible refine (HSN.out _ B1.out).mono ?_)
      rintro e w2 ⟨rfl, hb2⟩
      have B2 := Lib.hid (B1.out.trans (hb2.mono B1.out.size))
      clear hb2
      go_wp2
      go_ret
      exact ⟨rfl, B2.out⟩
    · obtain ⟨i, rfl⟩ : ∃ d : Nat, a = d := ⟨a.toNat, by omega⟩
      by_cases h1 : i < l.length
      · have HCU := Lib.hid (fun w => cut_any l (by have := HSL.out; omega) i h1 w)
        have h2 : decide ((bs l).size ≤ i) = false := by rw [decide_eq_false_iff_not]; show ¬ l.length ≤ i; omega
        cases hcu : cutB l i with
        | true =>
          rw [hcu] at HCU
          clear ha hqz hcu
          go_enter Tryz.func10, Tryz.ntmps10
          go_wp2_with fail
          (with_reducible refine HLV.out.mono ?_)
          rintro e w1 ⟨rfl, hb1⟩
          have B1 := Lib.hid hb1
          clear hb1
          go_wp2_with fail
          (with_reducible refine (HSN.out _ B1.out).mono ?_)
          rintro e w2 ⟨rfl, hb2⟩
          have B2 := Lib.hid (B1.out.trans (hb2.mono B1.out.size))
          clear hb2
          go_wp2_with fail
          (with_reducible refine (HCU.out _).mono ?_)
          rintro e w3 ⟨rfl, hb3⟩
          have B2 := Lib.hid (B2.out.trans (hb3.mono B2.out.size))
          clear hb3
          go_wp2
          go_ret
          exact ⟨rfl, B2.out⟩
        | false =>
          have HT := Lib.hid (cut_none hcu (by omega))
          rw [hcu] at HCU
          have hex : (bs l).extract 0 i = bs (l.take i) := ex_take l i (by omega)
          have hi8 : i ≤ (bs l).size := Nat.le_of_lt h1
          have hi9 : i ≤ 1090000000000 := by have := HSL.out; omega
          have hcat : bs M ++ bs l = bs (M ++ l) := by apply ByteArray.ext; simp [bs]
          have HB1 := Lib.hid (fun w => Base_any (l.take i) (by rw [List.length_take]; have := HSL.out; omega) w)
          have e1 : basE (l.take i) = 16 := by unfold basE; rw [HT.out]; rfl
          have e2 : basH (l.take i) = z32 := by unfold basH; rw [HT.out]
          rw [e1, e2] at HB1
          have HB2 := Lib.hid (fun w => Base_any (M ++ l) (by rw [List.length_append]; have := HSL.out; omega) w)
          obtain ⟨G, hG⟩ : ∃ G, basH (M ++ l) = G := ⟨_, rfl⟩
          have hGl : G.length = 32 := by
            rw [← hG]; unfold basH
            cases ht : tkn (M ++ l) with
            | none => rfl
            | some p => exact tkn_base ht
          rw [hG] at HB2
          clear ha hcu e1 e2 hG
          go_enter Tryz.func10, Tryz.ntmps10
          go_wp2_with fail
          (with_reducible refine HLV.out.mono ?_)
          rintro e w1 ⟨rfl, hb1⟩
          have B1 := Lib.hid hb1
          clear hb1
          go_wp2_with fail
          (with_reducible refine (HSN.out _ B1.out).mono ?_)
          rintro e w2 ⟨rfl, hb2⟩
          have B2 := Lib.hid (B1.out.trans (hb2.mono B1.out.size))
          clear hb2
          go_wp2_with fail
          (with_reducible refine (HCU.out _).mono ?_)
          rintro e w3 ⟨rfl, hb3⟩
          have B3 := Lib.hid (B2.out.trans (hb3.mono B2.out.size))
          clear hb3 HCU
          go_wp2_with fail
          (with_reducible refine (HB1.out _).mono ?_)
          rintro e w4 ⟨rfl, hb4⟩
          have B4 := Lib.hid (B3.out.trans (hb4.mono B3.out.size))
          obtain ⟨E, hE⟩ : ∃ C, (u8s z32).toArray = C := ⟨_, rfl⟩
          have HSE := Lib.hid (show E.size = 32 by rw [← hE]; rfl)
          have HIE := Lib.hid (show (Tryz.prog.info? 54).map (·.size) = some E.size by rw [HSE.out]; kernel_rfl)
          have HOE := Lib.hid (show E.all (·.oneCell') = true by rw [← hE]; exact Hk.u8s_one _)
          obtain ⟨Z, hZ⟩ : ∃ Z : Array Value, zH = Z := ⟨_, rfl⟩
          have HZS := Lib.hid (show Z.size = 32 by rw [← hZ]; rfl)
          have HZE := Lib.hid (show Z.size = E.size by rw [HSE.out, HZS.out])
          delta zH at hZ
          rw [hE]
          have hn4 := var_new w4 E Z 54
          obtain ⟨V4, hV4⟩ : ∃ V, (w4.alloc (.cells Z 54)).setRow w4.heap.size E = V := ⟨_, rfl⟩
          have HN4 := Lib.hid (heap_alloc_new w4 (.cells Z 54))
          rw [hV4] at hn4
          have BV4 := Lib.hid (B4.out.trans (hn4.1.mono B4.out.size))
          have hbig : ¬ 9223372036854775807 < (bs M).size + (bs l).size := by have := HSL.out; show ¬ 9223372036854775807 < M.length + l.length; omega
          clear hb4 HB1 hE hn4 hex hi8 hi9
          go_wp2_with (refine wpList_store_row rfl 54 (.tmp 11) (.tmp 43) rfl w4.heap.size E rfl rfl 54 Z HN4.out HIE.out HZE.out HOE.out ?_)
          (with_reducible refine (HB2.out _).mono ?_)
          rintro e w5 ⟨rfl, hb5⟩
          have B5 := Lib.hid (BV4.out.trans (hb5.mono BV4.out.size))
          obtain ⟨K, hK⟩ : ∃ C, (u8s G).toArray = C := ⟨_, rfl⟩
          have HSK := Lib.hid (show K.size = 32 by rw [← hK, List.size_toArray, u8s_length, hGl])
          have HIK := Lib.hid (show (Tryz.prog.info? 54).map (·.size) = some K.size by rw [HSK.out]; kernel_rfl)
          have HOK := Lib.hid (show K.all (·.oneCell') = true by rw [← hK]; exact Hk.u8s_one _)
          have HZK := Lib.hid (show Z.size = K.size by rw [HSK.out, HZS.out])
          rw [hK]
          have hn5 := var_new w5 K Z 54
          obtain ⟨V5, hV5⟩ : ∃ V, (w5.alloc (.cells Z 54)).setRow w5.heap.size K = V := ⟨_, rfl⟩
          have HN5 := Lib.hid (heap_alloc_new w5 (.cells Z 54))
          rw [hV5] at hn5
          have BV5 := Lib.hid (B5.out.trans (hn5.1.mono B5.out.size))
          obtain ⟨x, hx⟩ : ∃ x, basE (M ++ l) = x := ⟨_, rfl⟩
          rw [hx] at HMO ⊢
          have hqs : (bs M).size = M.length := rfl
          clear hb5 HB2 hK hn5 hx hcat hGl
          by_cases hM0 : M = []
          · subst hM0
            have hem : (bs []).toList.isEmpty = true := by decide +kernel
            clear HMO
            go_wp2_with (refine wpList_store_row rfl 54 (.tmp 13) (.tmp 50) rfl w5.heap.size K rfl rfl 54 Z HN5.out HIK.out HZK.out HOK.out ?_)
            go_ret
            exact ⟨rfl, BV5.out⟩
          · have hem : (bs M).toList.isEmpty = false := by
              rw [ByteArray.toList_eq]
              show M.isEmpty = false
              cases M with
              | nil => exact absurd rfl hM0
              | cons x M => rfl
            by_cases hM1 : 1 < M.length
            · have hl1 : (1 : Int) < ((bs M).size : Int) := by rw [hqs]; omega
              have hb2 : 2 ≤ (bs M).size := by rw [hqs]; omega
              have hex : ((bs M).extract 0 2).toList = M.take 2 := by
                rw [ex_take M 2 (by omega), ByteArray.toList_eq]; rfl
              by_cases hC : M.take 2 = [67, 83]
              · rw [hC] at hex
                clear HMO
                go_wp2_with (refine wpList_store_row rfl 54 (.tmp 13) (.tmp 50) rfl w5.heap.size K rfl rfl 54 Z HN5.out HIK.out HZK.out HOK.out ?_)
                go_ret
                exact ⟨rfl, BV5.out⟩
              · have hx := HMO.out hM0 hC
                subst hx
                have hC2 : ¬ ((bs M).extract 0 2).toList = [67, 83] := by rw [hex]; exact hC
                clear hex hC
                clear HMO
                go_wp2_with (refine wpList_store_row rfl 54 (.tmp 13) (.tmp 50) rfl w5.heap.size K rfl rfl 54 Z HN5.out HIK.out HZK.out HOK.out ?_)
                go_ret
                exact ⟨rfl, BV5.out⟩
            · have hx := HMO.out hM0 (fun h => hM1 (by have := congrArg List.length h; rw [List.length_take] at this; simp at this; omega))
              subst hx
              have hl1 : ¬ (1 : Int) < ((bs M).size : Int) := by rw [hqs]; omega
              clear HMO
              go_wp2_with (refine wpList_store_row rfl 54 (.tmp 13) (.tmp 50) rfl w5.heap.size K rfl rfl 54 Z HN5.out HIK.out HZK.out HOK.out ?_)
              go_ret
              exact ⟨rfl, BV5.out⟩
      · have h2 : decide ((bs l).size ≤ i) = true := by rw [decide_eq_true_iff]; show l.length ≤ i; omega
        clear ha h1 hqz
        go_enter Tryz.func10, Tryz.ntmps10
        go_wp2_with fail
        (with_reducible refine HLV.out.mono ?_)
        rintro e w1 ⟨rfl, hb1⟩
        have B1 := Lib.hid hb1
        clear hb1
        go_wp2_with fail
        (with_reducible refine (HSN.out _ B1.out).mono ?_)
        rintro e w2 ⟨rfl, hb2⟩
        have B2 := Lib.hid (B1.out.trans (hb2.mono B1.out.size))
        clear hb2
        go_wp2
        go_ret
        exact ⟨rfl, B2.out⟩
  · have HE := Lib.hid (snd_no hr)
    rw [HE.out.1, HE.out.2] at HSN
    clear hr ha hqz
    go_enter Tryz.func10, Tryz.ntmps10
    go_wp2_with fail
    (with_reducible refine HLV.out.mono ?_)
    rintro e w1 ⟨rfl, hb1⟩
    have B1 := Lib.hid hb1
    clear hb1
    go_wp2_with fail
    (with_reducible refine (HSN.out _ B1.out).mono ?_)
    rintro e w2 ⟨rfl, hb2⟩
    have B2 := Lib.hid (B1.out.trans (hb2.mono B1.out.size))
    clear hb2
    go_wp2
    go_ret
    exact ⟨rfl, B2.out⟩
end Go.Proofs.YtjkmfonngbendaaGreatDoor.Se
/- Bounds of an int and a byte as arguments. No function of the program here. -/
namespace Go.Proofs.YtjkmfonngbendaaGreatDoor.Fr
set_option linter.unusedVariables false
theorem wf_i64 {z : Int} (h : (Lit.int .i64 z).wf = true) : -9223372036854775808 ≤ z ∧ z ≤ 9223372036854775807 := by
  have h1 : IntKind.i64.min ≤ z ∧ z ≤ IntKind.i64.max := by simpa [Lit.wf] using h
  have h2 : IntKind.i64.min = -9223372036854775808 := rfl
  have h3 : IntKind.i64.max = 9223372036854775807 := rfl
  omega
theorem wf_u8 {z : Int} (h : (Lit.int .u8 z).wf = true) : ∃ n : Nat, z = n ∧ n < 256 := by
  have h1 : IntKind.u8.min ≤ z ∧ z ≤ IntKind.u8.max := by simpa [Lit.wf] using h
  have h2 : IntKind.u8.min = 0 := rfl
  have h3 : IntKind.u8.max = 255 := rfl
  exact ⟨z.toNat, by omega, by omega⟩
end Go.Proofs.YtjkmfonngbendaaGreatDoor.Fr
