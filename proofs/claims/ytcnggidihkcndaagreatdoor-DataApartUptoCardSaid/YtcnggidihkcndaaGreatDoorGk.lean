/- Contracts of package inode: keys as bytes, there and back. -/
import Derived.Test.YtcnggidihkcndaaGreatDoorInC
namespace Go.Proofs.YtcnggidihkcndaaGreatDoor.Ino
set_option linter.unusedVariables false
set_option linter.unusedSimpArgs false
open Go.ChangeShapes Go.WideShapes Go.ChangeAt Go.RowKit
open Rg
open Pk (be num be_length num_be num_lt bs bs_size nB nE tN tR tE xB_size)
open Ph (has tl tl_len nb contains_any name_any)
theorem ltB_size {K : Nat} : (ltB K).size ≤ 1 := by
  unfold ltB lt
  rw [bs_size]
  repeat' split
  all_goals decide
theorem new_letters (w : World) : LtAt (w.alloc (.cells #[.int .u32 0, .int .i32 0, .int .u32 0, .string ⟨#[]⟩, .string ⟨#[]⟩, .string ⟨#[]⟩, .string ⟨#[]⟩, .string ⟨#[]⟩] 91)) w.heap.size false := by
  refine ⟨?_, fun i hi => ?_⟩
  · intro i v hv
    rw [Nat.zero_add]
    refine (cell_of_row (w.alloc (.cells #[.int .u32 0, .int .i32 0, .int .u32 0, .string ⟨#[]⟩, .string ⟨#[]⟩, .string ⟨#[]⟩, .string ⟨#[]⟩, .string ⟨#[]⟩] 91)) w.heap.size i #[.int .u32 0, .int .i32 0, .int .u32 0, .string ⟨#[]⟩, .string ⟨#[]⟩, .string ⟨#[]⟩, .string ⟨#[]⟩, .string ⟨#[]⟩] 91 (0, 0) (heap_alloc_new w _)).trans ?_
    rw [← hv]
    show (lRow false).toArray[i]? = (lRow false)[i]?
    exact List.getElem?_toArray ..
  · exact frozen_of_row (w.alloc (.cells #[.int .u32 0, .int .i32 0, .int .u32 0, .string ⟨#[]⟩, .string ⟨#[]⟩, .string ⟨#[]⟩, .string ⟨#[]⟩, .string ⟨#[]⟩] 91)) w.heap.size i #[.int .u32 0, .int .i32 0, .int .u32 0, .string ⟨#[]⟩, .string ⟨#[]⟩, .string ⟨#[]⟩, .string ⟨#[]⟩, .string ⟨#[]⟩] 91 (heap_alloc_new w _)
set_option maxRecDepth 100000 in
set_option maxHeartbeats 1000000 in
theorem prefix_in (K I : Nat) (hK : K < 256) (hI : I < 4294967296) (w : World) :
    Calls Tryz.prog 23 #[.int .u8 K, .int .u32 I] w fun e w' => e = .returned (.string (pfx K I)) ∧ Below w.heap.size w w' := by
  have HL := Lib.hid (new_letters w)
  have B0 := Lib.hid ((Below.refl w.heap.size w).alloc (Nat.le_refl _) (.cells #[.int .u32 0, .int .i32 0, .int .u32 0, .string ⟨#[]⟩, .string ⟨#[]⟩, .string ⟨#[]⟩, .string ⟨#[]⟩, .string ⟨#[]⟩] 91))
  have hz := ltB_size (K := K)
  have u := u64_id (n := I) (by omega)
  have HU := Lib.hid u
  have HN := Lib.hid (fun w => number_in I 4 w (by omega) (by omega) (by omega) (by omega))
  have hbz : (bs (be 4 I)).size = 4 := by rw [bs_size, be_length]
  clear u
  by_cases h0 : lt K = []
  · have HP := Lib.hid (show pfx K I = ByteArray.empty by unfold pfx; rw [if_pos h0])
    have e0 : (ltB K).size = 0 := by unfold ltB; rw [h0]; rfl
    obtain ⟨e1, e2⟩ := emp_of (decide_eq_true e0)
    have e3 := emp_yes e0
    clear h0 e0
    go_enter Tryz.func23, Tryz.ntmps23
    go_wp2_with fail
    change Calls _ _ _ (w.alloc (.cells #[.int .u32 0, .int .i32 0, .int .u32 0, .string ⟨#[]⟩, .string ⟨#[]⟩, .string ⟨#[]⟩, .string ⟨#[]⟩, .string ⟨#[]⟩] 91)) _
    refine (of_any w.heap.size K false hK _ HL.out).mono ?_
    rintro e w1 ⟨rfl, h1, hb⟩
    go_wp2
    go_ret
    exact ⟨by rw [HP.out]; rfl, B0.out.trans hb⟩
  · have HP := Lib.hid (show pfx K I = ltB K ++ bs (be 4 I) by unfold pfx; rw [if_neg h0]; rfl)
    have e0 : ¬ (ltB K).size = 0 := by
      unfold ltB
      rw [bs_size]
      intro h
      exact h0 (List.eq_nil_of_length_eq_zero h)
    obtain ⟨e1, e2⟩ := emp_of (decide_eq_false e0)
    have e3 := emp_no e0
    clear h0 e0
    go_enter Tryz.func23, Tryz.ntmps23
    go_wp2_with fail
    change Calls _ _ _ (w.alloc (.cells #[.int .u32 0, .int .i32 0, .int .u32 0, .string ⟨#[]⟩, .string ⟨#[]⟩, .string ⟨#[]⟩, .string ⟨#[]⟩, .string ⟨#[]⟩] 91)) _
    refine (of_any w.heap.size K false hK _ HL.out).mono ?_
    rintro e w1 ⟨rfl, h1, hb⟩
    have B1 := Lib.hid (B0.out.trans hb)
    clear hb h1
    have u := HU.out
    go_wp2_with (go_at_call 38; refine (HN.out _).mono ?_; rintro e w' ⟨rfl, hb⟩)
    go_ret
    exact ⟨by rw [HP.out]; rfl, B1.out.trans (hb.mono B1.out.size)⟩
/-- what a letter cuts off -/
theorem cut_letter (s : ByteArray) (K : Nat) (h1 : 1 ≤ K) (h2 : K ≤ 4) (w : World) :
    Calls Tryz.prog 68 #[.string s, .string (ltB K)] w fun e w' => e = .returned (.tuple #[.string (if kd s = K then s.extract 1 s.size else s), .bool (decide (kd s = K))]) ∧ w = w' := by
  refine (Tryz.strings_CutPrefix s (ltB K) w).mono ?_
  rintro e w' ⟨rfl, rfl⟩
  refine ⟨?_, rfl⟩
  have key : ∀ (c : UInt8) (l : List UInt8), Lib.hasPrefix l [c] = (l.head? == some c) := by
    intro c l
    cases l with
    | nil => rfl
    | cons a l =>
      show ((c : UInt8) == a && true) = (some a == some c)
      rw [Bool.and_true, Bool.eq_iff_iff, beq_iff_eq, beq_iff_eq]
      exact ⟨fun h => by rw [h], fun h => by injection h with h; exact h.symm⟩
  obtain ⟨c, hc, hkd⟩ : ∃ c : UInt8, ltB K = ⟨#[c]⟩ ∧ (kd s = K ↔ s.data.toList.head? = some c) := by
    have hk : ∀ c : UInt8, (match s.data.toList with | a :: _ => if a = 105 then 1 else if a = 100 then 2 else if a = 99 then 3 else if a = 120 then 4 else 0 | [] => 0) = kd s := fun _ => rfl
    rcases (show K = 1 ∨ K = 2 ∨ K = 3 ∨ K = 4 by omega) with rfl | rfl | rfl | rfl
    · refine ⟨105, rfl, ?_⟩
      unfold kd
      cases s.data.toList with
      | nil => simp
      | cons a l =>
        simp only [List.head?_cons, Option.some.injEq]
        by_cases e1 : a = 105
        · simp [e1]
        · rw [if_neg e1]; simp only [e1, iff_false]
          repeat' split
          all_goals omega
    · refine ⟨100, rfl, ?_⟩
      unfold kd
      cases s.data.toList with
      | nil => simp
      | cons a l =>
        simp only [List.head?_cons, Option.some.injEq]
        by_cases e1 : a = 100
        · simp [e1]
        · simp only [e1, if_false, iff_false]
          repeat' split
          all_goals omega
    · refine ⟨99, rfl, ?_⟩
      unfold kd
      cases s.data.toList with
      | nil => simp
      | cons a l =>
        simp only [List.head?_cons, Option.some.injEq]
        by_cases e1 : a = 99
        · simp [e1]
        · simp only [e1, if_false, iff_false]
          repeat' split
          all_goals omega
    · refine ⟨120, rfl, ?_⟩
      unfold kd
      cases s.data.toList with
      | nil => simp
      | cons a l =>
        simp only [List.head?_cons, Option.some.injEq]
        by_cases e1 : a = 120
        · simp [e1]
        · simp only [e1, if_false, iff_false]
          repeat' split
          all_goals omega
  rw [hc]
  have hp : Lib.hasPrefix s.data.toList [c] = decide (kd s = K) := by
    rw [key, Bool.eq_iff_iff, beq_iff_eq, decide_eq_true_iff]
    exact hkd.symm
  show Ending.returned (.tuple #[.string ⟨(Lib.trimPrefix s.data.toList [c]).toArray⟩, .bool (Lib.hasPrefix s.data.toList [c])]) = _
  unfold Lib.trimPrefix
  rw [hp]
  by_cases h : kd s = K
  · rw [decide_eq_true h, if_pos rfl, if_pos h]
    congr 4
    congr 1
    apply ByteArray.ext
    apply Array.toList_inj.1
    rw [ByteArray.data_extract, Array.toList_extract, List.extract_eq_take_drop, List.take_of_length_le (by rw [List.length_drop, Array.length_toList]; exact Nat.le_refl _)]
    rfl
  · rw [decide_eq_false h, if_neg (by decide), if_neg h]
set_option maxRecDepth 100000 in
set_option maxHeartbeats 2000000 in
theorem take_in (s : ByteArray) (g : Nat) (b0 : Bool) (w : World) (h0 : LtAt w g b0) :
    Calls Tryz.prog 53 #[.pointer (some ⟨g, 0, none⟩), .string s] w fun e w' => e = .returned (.tuple #[.int .u8 (kd s), .string (rs s)]) ∧ Below g w w' := by
  have hle := kd_le s
  have H0 := Lib.hid h0
  clear h0
  go_enter Tryz.func53, Tryz.ntmps53
  go_wp2_with fail
  go_loopw [6] (fun v wr => ∃ (k : Nat) (b : Bool), 1 ≤ k ∧ k ≤ 5 ∧ v = .int .u8 k ∧ (kd s = 0 ∨ k ≤ kd s) ∧ Hid (LtAt wr g b) ∧ Hid (Below g w wr)) (fun v _ => 5 - (intOf v).toNat)
  case atStart => exact ⟨1, b0, Nat.le_refl _, by omega, by go_num, by omega, H0, Lib.hid (Below.refl _ _)⟩
  case round =>
    obtain ⟨k, b, hk1, hk5, rfl, hkd, HL, HB⟩ := hrel
    by_cases hlt : k < 5
    · have HC := Lib.hid (cut_letter s k hk1 (by omega))
      have HO := Lib.hid (of_any g k b (by omega) wr (Hid.out HL))
      clear HL
      by_cases he : kd s = k
      · have HR := Lib.hid (show rs s = s.extract 1 s.size by unfold rs; rw [if_neg (by omega)])
        have HE := Lib.hid he
        rw [if_pos he, decide_eq_true he] at HC
        clear he hkd
        go_wp2_with (first
          | (go_at_call 37; refine HO.out.mono ?_; rintro e w1 ⟨rfl, h1, hb⟩)
          | (go_at_call 68; refine (HC.out _).mono ?_; rintro e w' ⟨rfl, rfl⟩))
        go_ret2
        exact ⟨by rw [HR.out, HE.out]; rfl, (Hid.out HB).trans hb⟩
      · rw [if_neg he, decide_eq_false he] at HC
        have hkd2 : kd s = 0 ∨ k + 1 ≤ kd s := by omega
        clear he hkd
        have u : IntKind.u8.wrap ((k : Int) + 1) = (k : Int) + 1 := u8_id (n := k + 1) (by omega)
        have HU := Lib.hid u
        clear u
        go_wp2_with fail
        refine HO.out.mono ?_
        rintro e w1 ⟨rfl, h1, hb⟩
        have HL2 := Lib.hid h1
        have HB2 := Lib.hid ((Hid.out HB).trans hb)
        clear h1 hb
        have u := HU.out
        go_wp2_with (go_at_call 68; refine (HC.out _).mono ?_; rintro e w' ⟨rfl, rfl⟩)
        refine ⟨⟨k + 1, true, by omega, by omega, by go_num, hkd2, HL2, HB2⟩, ?_⟩
        clear u
        simp [intOf]; omega
    · have hz : kd s = 0 := by omega
      have HZ := Lib.hid hz
      have HR := Lib.hid (show rs s = s by unfold rs; rw [if_pos hz])
      obtain rfl : k = 5 := by omega
      clear hz hkd
      go_wp2
      go_ret2
      exact ⟨by rw [HR.out, HZ.out]; rfl, Hid.out HB⟩
end Go.Proofs.YtcnggidihkcndaaGreatDoor.Ino
/- Contracts of package inode: what a right key is, its bytes, there and back. -/
namespace Go.Proofs.YtcnggidihkcndaaGreatDoor.Ino
set_option linter.unusedVariables false
set_option linter.unusedSimpArgs false
open Go.ChangeShapes Go.WideShapes Go.ChangeAt Go.RowKit
open Rg
open Pk (be num be_length num_be num_lt bs bs_size nB nE tN tR tE xB_size)
open Ph (has tl tl_len nb contains_any name_any)
theorem ltz {a b : Nat} {q : Bool} (h : decide (a < b) = q) : decide ((a : Int) < (b : Int)) = q := by
  rw [← h]; exact decide_eq_decide.2 (by omega)
theorem ltzC {a : Nat} {q : Bool} (h : decide (a < 512) = q) : decide ((a : Int) < 512) = q := ltz (b := 512) h
set_option maxRecDepth 100000 in
set_option maxHeartbeats 2000000 in
theorem rightKey_in (k : Ky) (hl : k.lim) (w : World) :
    Calls Tryz.prog 55 #[vK k] w fun e w' => e = .returned (.bool (okK k)) ∧ Below w.heap.size w w' := by
  obtain ⟨K, I, N, C⟩ := k
  obtain ⟨l1, l2, l3⟩ := hl
  dsimp only at l1 l2 l3
  unfold vK
  dsimp only
  have HNm := Lib.hid (fun w => name_any N w (contains_any N))
  have hq : okK ⟨K, I, N, C⟩ = (decide (1 ≤ I) && (if K = 1 then decide (N.size = 0) && decide (C = 0) else if K = 2 ∨ K = 4 then nb N && decide (C = 0) else if K = 3 then decide (N.size = 0) && decide (C < 512) else false)) := rfl
  cases i0 : decide (I = 0)
  · have I0 := eqz0 i0
    have i1 : decide (1 ≤ I) = true := decide_eq_true (by have := of_decide_eq_false i0; omega)
    rw [i1, Bool.true_and] at hq
    clear i1 i0
    cases k1 : decide (K = 1)
    · have K1 := eqz1 k1
      have k1' := of_decide_eq_false k1
      rw [if_neg k1'] at hq
      cases k2 : decide (K = 2)
      · have K2 := eqz2 k2
        have k2' := of_decide_eq_false k2
        cases k4 : decide (K = 4)
        · have K4 := eqz4 k4
          have k4' := of_decide_eq_false k4
          rw [if_neg (by omega)] at hq
          cases k3 : decide (K = 3)
          · have K3 := eqz3 k3
            have k3' := of_decide_eq_false k3
            rw [if_neg k3'] at hq
            have HQ := Lib.hid (show okK ⟨K, I, N, C⟩ = false by rw [hq])
            clear hq k1 k2 k3 k4 k1' k2' k3' k4'
            go_enter Tryz.func55, Tryz.ntmps55
            go_wp2
            go_ret
            exact ⟨by rw [HQ.out]; rfl, (Below.refl _ _).alloc (Nat.le_refl _) _⟩
          · have K3 := eqz3 k3
            have k3' := of_decide_eq_true k3
            rw [if_pos k3'] at hq
            clear k1 k2 k3 k4 k1' k2' k3' k4'
            cases a1 : decide (N.size = 0)
            · obtain ⟨A3, A4⟩ := emp_of a1
              have A5 := emp_no (of_decide_eq_false a1)
              rw [a1] at hq
              have HQ := Lib.hid (show okK ⟨K, I, N, C⟩ = false by rw [hq]; rfl)
              clear hq a1
              go_enter Tryz.func55, Tryz.ntmps55
              go_wp2
              go_ret
              exact ⟨by rw [HQ.out]; rfl, (Below.refl _ _).alloc (Nat.le_refl _) _⟩
            · obtain ⟨A3, A4⟩ := emp_of a1
              have A5 := emp_yes (of_decide_eq_true a1)
              rw [a1] at hq
              cases a2 : decide (C < 512)
              · have A2 := ltzC a2
                rw [a2] at hq
                have HQ := Lib.hid (show okK ⟨K, I, N, C⟩ = false by rw [hq]; rfl)
                clear hq a1 a2
                go_enter Tryz.func55, Tryz.ntmps55
                go_wp2
                go_ret
                exact ⟨by rw [HQ.out]; rfl, (Below.refl _ _).alloc (Nat.le_refl _) _⟩
              · have A2 := ltzC a2
                rw [a2] at hq
                have HQ := Lib.hid (show okK ⟨K, I, N, C⟩ = true by rw [hq]; rfl)
                clear hq a1 a2
                go_enter Tryz.func55, Tryz.ntmps55
                go_wp2
                go_ret
                exact ⟨by rw [HQ.out]; rfl, (Below.refl _ _).alloc (Nat.le_refl _) _⟩
        · have K4 := eqz4 k4
          have k4' := of_decide_eq_true k4
          rw [if_pos (by omega)] at hq
          clear k1 k2 k4 k1' k2' k4'
          cases a1 : nb N
          · rw [a1] at hq HNm
            have HQ := Lib.hid (show okK ⟨K, I, N, C⟩ = false by rw [hq]; rfl)
            clear hq a1
            go_enter Tryz.func55, Tryz.ntmps55
            go_wp2_with (go_at_call 70; refine (HNm.out _).mono ?_; rintro e w' ⟨rfl, rfl⟩)
            go_ret
            exact ⟨by rw [HQ.out]; rfl, (Below.refl _ _).alloc (Nat.le_refl _) _⟩
          · rw [a1] at hq HNm
            cases a2 : decide (C = 0)
            · have A2 := eqz0 a2
              rw [a2] at hq
              have HQ := Lib.hid (show okK ⟨K, I, N, C⟩ = false by rw [hq]; rfl)
              clear hq a1 a2
              go_enter Tryz.func55, Tryz.ntmps55
              go_wp2_with (go_at_call 70; refine (HNm.out _).mono ?_; rintro e w' ⟨rfl, rfl⟩)
              go_ret
              exact ⟨by rw [HQ.out]; rfl, (Below.refl _ _).alloc (Nat.le_refl _) _⟩
            · have A2 := eqz0 a2
              rw [a2] at hq
              have HQ := Lib.hid (show okK ⟨K, I, N, C⟩ = true by rw [hq]; rfl)
              clear hq a1 a2
              go_enter Tryz.func55, Tryz.ntmps55
              go_wp2_with (go_at_call 70; refine (HNm.out _).mono ?_; rintro e w' ⟨rfl, rfl⟩)
              go_ret
              exact ⟨by rw [HQ.out]; rfl, (Below.refl _ _).alloc (Nat.le_refl _) _⟩
      · have K2 := eqz2 k2
        have k2' := of_decide_eq_true k2
        rw [if_pos (by omega)] at hq
        clear k1 k2 k1' k2'
        cases a1 : nb N
        · rw [a1] at hq HNm
          have HQ := Lib.hid (show okK ⟨K, I, N, C⟩ = false by rw [hq]; rfl)
          clear hq a1
          go_enter Tryz.func55, Tryz.ntmps55
          go_wp2_with (go_at_call 70; refine (HNm.out _).mono ?_; rintro e w' ⟨rfl, rfl⟩)
          go_ret
          exact ⟨by rw [HQ.out]; rfl, (Below.refl _ _).alloc (Nat.le_refl _) _⟩
        · rw [a1] at hq HNm
          cases a2 : decide (C = 0)
          · have A2 := eqz0 a2
            rw [a2] at hq
            have HQ := Lib.hid (show okK ⟨K, I, N, C⟩ = false by rw [hq]; rfl)
            clear hq a1 a2
            go_enter Tryz.func55, Tryz.ntmps55
            go_wp2_with (go_at_call 70; refine (HNm.out _).mono ?_; rintro e w' ⟨rfl, rfl⟩)
            go_ret
            exact ⟨by rw [HQ.out]; rfl, (Below.refl _ _).alloc (Nat.le_refl _) _⟩
          · have A2 := eqz0 a2
            rw [a2] at hq
            have HQ := Lib.hid (show okK ⟨K, I, N, C⟩ = true by rw [hq]; rfl)
            clear hq a1 a2
            go_enter Tryz.func55, Tryz.ntmps55
            go_wp2_with (go_at_call 70; refine (HNm.out _).mono ?_; rintro e w' ⟨rfl, rfl⟩)
            go_ret
            exact ⟨by rw [HQ.out]; rfl, (Below.refl _ _).alloc (Nat.le_refl _) _⟩
    · have K1 := eqz1 k1
      have k1' := of_decide_eq_true k1
      rw [if_pos k1'] at hq
      clear k1 k1'
      cases a1 : decide (N.size = 0)
      · obtain ⟨A3, A4⟩ := emp_of a1
        have A5 := emp_no (of_decide_eq_false a1)
        rw [a1] at hq
        have HQ := Lib.hid (show okK ⟨K, I, N, C⟩ = false by rw [hq]; rfl)
        clear hq a1
        go_enter Tryz.func55, Tryz.ntmps55
        go_wp2
        go_ret
        exact ⟨by rw [HQ.out]; rfl, (Below.refl _ _).alloc (Nat.le_refl _) _⟩
      · obtain ⟨A3, A4⟩ := emp_of a1
        have A5 := emp_yes (of_decide_eq_true a1)
        rw [a1] at hq
        cases a2 : decide (C = 0)
        · have A2 := eqz0 a2
          rw [a2] at hq
          have HQ := Lib.hid (show okK ⟨K, I, N, C⟩ = false by rw [hq]; rfl)
          clear hq a1 a2
          go_enter Tryz.func55, Tryz.ntmps55
          go_wp2
          go_ret
          exact ⟨by rw [HQ.out]; rfl, (Below.refl _ _).alloc (Nat.le_refl _) _⟩
        · have A2 := eqz0 a2
          rw [a2] at hq
          have HQ := Lib.hid (show okK ⟨K, I, N, C⟩ = true by rw [hq]; rfl)
          clear hq a1 a2
          go_enter Tryz.func55, Tryz.ntmps55
          go_wp2
          go_ret
          exact ⟨by rw [HQ.out]; rfl, (Below.refl _ _).alloc (Nat.le_refl _) _⟩
  · have I0 := eqz0 i0
    have i1 : decide (1 ≤ I) = false := decide_eq_false (by have := of_decide_eq_true i0; omega)
    rw [i1, Bool.false_and] at hq
    clear i1 i0
    have HQ := Lib.hid (show okK ⟨K, I, N, C⟩ = false by rw [hq])
    clear hq
    go_enter Tryz.func55, Tryz.ntmps55
    go_wp2
    go_ret
    exact ⟨by rw [HQ.out]; rfl, (Below.refl _ _).alloc (Nat.le_refl _) _⟩
theorem pfx_size (K I : Nat) : (pfx K I).size ≤ 5 := by
  unfold pfx
  split
  · exact Nat.zero_le _
  · rw [ByteArray.size_append, bs_size, bs_size, be_length]
    have := @ltB_size K
    unfold ltB at this
    rw [bs_size] at this
    omega
set_option maxRecDepth 100000 in
set_option maxHeartbeats 2000000 in
theorem writtenKey_in (k : Ky) (hl : k.lim) (ht : k.N.size ≤ 65535) (w : World) :
    Calls Tryz.prog 56 #[vK k] w fun e w' => e = .returned (.string (wrK k)) ∧ Below w.heap.size w w' := by
  obtain ⟨K, I, N, C⟩ := k
  obtain ⟨l1, l2, l3⟩ := hl
  dsimp only at l1 l2 l3 ht
  unfold vK
  dsimp only
  have C0 := box_cell w #[.int .u8 K, .int .u32 I, .string N, .int .u32 C] 60 0 rfl
  have C1 := box_cell w #[.int .u8 K, .int .u32 I, .string N, .int .u32 C] 60 1 rfl
  have C2 := box_cell w #[.int .u8 K, .int .u32 I, .string N, .int .u32 C] 60 2 rfl
  have C3 := box_cell w #[.int .u8 K, .int .u32 I, .string N, .int .u32 C] 60 3 rfl
  have B0 := Lib.hid ((Below.refl w.heap.size w).alloc (Nat.le_refl _) (.cells #[.int .u8 K, .int .u32 I, .string N, .int .u32 C] 60))
  have hsz : w.heap.size < (w.alloc (.cells #[.int .u8 K, .int .u32 I, .string N, .int .u32 C] 60)).heap.size := by simp
  have HP := Lib.hid (fun w => prefix_in K I l1 l2 w)
  have HN := Lib.hid (fun w => number_in C 4 w (by omega) (by omega) (by omega) (by omega))
  have HU := Lib.hid (u64_id (n := C) (by omega))
  have pz := pfx_size K I
  have cz : (bs (be 4 C)).size = 4 := by rw [bs_size, be_length]
  go_enter Tryz.func56, Tryz.ntmps56
  go_wp2_with fail
  obtain ⟨b0, hb0⟩ : ∃ b, w.heap.size = b := ⟨_, rfl⟩
  have HB0 := Lib.hid hb0
  rw [hb0] at C0 C1 C2 C3 B0 hsz ⊢
  clear hb0
  obtain ⟨W, hW⟩ : ∃ W, w.alloc (.cells #[.int .u8 K, .int .u32 I, .string N, .int .u32 C] 60) = W := ⟨_, rfl⟩
  rw [hW] at C0 C1 C2 C3 B0 hsz
  change Code.wp _ _ _ _ (w.alloc (.cells #[.int .u8 K, .int .u32 I, .string N, .int .u32 C] 60))
  rw [hW]
  clear hW
  obtain ⟨P, hP⟩ : ∃ P, pfx K I = P := ⟨_, rfl⟩
  rw [hP] at HP pz
  have HPP := Lib.hid hP
  clear hP
  have hbl := hsz
  refine wp_region_G (fun w' => Below W.heap.size W w') (by kernel_rfl) (by kernel_rfl) (Below.refl _ _).drew ?_
  refine wpG_val (.pointer (some ⟨b0, 0, none⟩)) rfl (by rfl) (fun w' hSw => by go_simp) ?_
  simp only [List.setIfInBounds_toArray, List.set_cons_zero, List.set_cons_succ]
  refine wpG_val (.int .u8 K) rfl (by rfl) (fun w' hSw => by have c := (Below.cell hSw (p := ⟨b0, 0, none⟩) hbl).trans C0; go_simp) ?_
  simp only [List.setIfInBounds_toArray, List.set_cons_zero, List.set_cons_succ]
  refine wpG_val (.pointer (some ⟨b0, 1, none⟩)) rfl (by rfl) (fun w' hSw => by go_simp) ?_
  simp only [List.setIfInBounds_toArray, List.set_cons_zero, List.set_cons_succ]
  refine wpG_val (.int .u32 I) rfl (by rfl) (fun w' hSw => by have c := (Below.cell hSw (p := ⟨b0, 1, none⟩) hbl).trans C1; go_simp) ?_
  simp only [List.setIfInBounds_toArray, List.set_cons_zero, List.set_cons_succ]
  refine wpG_call (.string P) 23 #[.int .u8 K, .int .u32 I] rfl (by rfl) (fun w' => by go_simp) (fun w' hSw => (HP.out w').mono fun e w2 h => ⟨h.1, hSw.trans (h.2.mono hSw.size)⟩) ?_
  simp only [List.setIfInBounds_toArray, List.set_cons_zero, List.set_cons_succ]
  refine wpG_val (.pointer (some ⟨b0, 2, none⟩)) rfl (by rfl) (fun w' hSw => by go_simp) ?_
  simp only [List.setIfInBounds_toArray, List.set_cons_zero, List.set_cons_succ]
  refine wpG_val (.string N) rfl (by rfl) (fun w' hSw => by have c := (Below.cell hSw (p := ⟨b0, 2, none⟩) hbl).trans C2; go_simp) ?_
  simp only [List.setIfInBounds_toArray, List.set_cons_zero, List.set_cons_succ]
  refine wpG_val (.string (P ++ N)) rfl (by rfl) (fun w' hSw => by go_simp <;> omega) ?_
  simp only [List.setIfInBounds_toArray, List.set_cons_zero, List.set_cons_succ]
  refine wpG_val (.string (P ++ N)) rfl (by rfl) (fun w' hSw => by go_simp) ?_
  simp only [List.setIfInBounds_toArray, List.set_cons_zero, List.set_cons_succ]
  refine wpG_nil ?_
  intro w1 hSw
  have D0 := (Below.cell hSw (p := ⟨b0, 0, none⟩) hbl).trans C0
  have D3 := (Below.cell hSw (p := ⟨b0, 3, none⟩) hbl).trans C3
  have B1 := Lib.hid (B0.out.trans (hSw.mono (Nat.le_of_lt hbl)))
  have hbl1 : b0 < w1.heap.size := Nat.lt_of_lt_of_le hbl hSw.size
  clear C0 C1 C2 C3 hSw B0 HP
  cases k3 : decide (K = 3)
  · have K3 := eqz3 k3
    have HW := Lib.hid (show wrK ⟨K, I, N, C⟩ = P ++ N by unfold wrK; dsimp only; rw [if_neg (of_decide_eq_false k3), HPP.out])
    clear k3
    go_wp2
    go_ret
    exact ⟨by rw [HW.out]; rfl, by rw [HB0.out]; exact B1.out⟩
  · have K3 := eqz3 k3
    have HW := Lib.hid (show wrK ⟨K, I, N, C⟩ = P ++ N ++ bs (be 4 C) by unfold wrK; dsimp only; rw [if_pos (of_decide_eq_true k3), HPP.out])
    clear k3
    have u := HU.out
    go_wp2_with (go_at_call 38; refine (HN.out _).mono ?_; rintro e w' ⟨rfl, hb⟩)
    go_ret
    exact ⟨by rw [HW.out]; rfl, by rw [HB0.out]; exact B1.out.trans (hb.mono (Nat.le_of_lt hbl1))⟩
/-- a key's bytes, or none; which error -/
def enK (k : Ky) : ByteArray := if okK k then wrK k else ByteArray.empty
def chK (k : Ky) : Int := if okK k then 0 else 4
theorem chK_yes {k : Ky} (h : okK k = true) : chK k = 0 ∧ enK k = wrK k := by unfold chK enK; rw [h]; exact ⟨rfl, rfl⟩
theorem chK_no {k : Ky} (h : okK k = false) : chK k = 4 ∧ enK k = ByteArray.empty := by unfold chK enK; rw [h]; exact ⟨rfl, rfl⟩
theorem okK_size {k : Ky} (h : okK k = true) : k.N.size ≤ 24 := by
  rcases (okK_iff.1 h).2 with h | h | h
  · omega
  · exact (nb_size h.2.1).2
  · omega
set_option maxRecDepth 100000 in
set_option maxHeartbeats 1000000 in
theorem key_in (k : Ky) (hl : k.lim) (w : World) :
    Calls Tryz.prog 40 #[vK k] w fun e w' => e = .returned (.tuple #[.string (enK k), .int .i64 (chK k)]) ∧ Below w.heap.size w w' := by
  obtain ⟨K, I, N, C⟩ := k
  have HC := Lib.hid (rightKey_in ⟨K, I, N, C⟩ hl)
  have HW := Lib.hid (fun ht w => writtenKey_in ⟨K, I, N, C⟩ hl ht w)
  have C0 := box_cell w #[.int .u8 K, .int .u32 I, .string N, .int .u32 C] 60 0 rfl
  have C1 := box_cell w #[.int .u8 K, .int .u32 I, .string N, .int .u32 C] 60 1 rfl
  have C2 := box_cell w #[.int .u8 K, .int .u32 I, .string N, .int .u32 C] 60 2 rfl
  have C3 := box_cell w #[.int .u8 K, .int .u32 I, .string N, .int .u32 C] 60 3 rfl
  have B0 := Lib.hid ((Below.refl w.heap.size w).alloc (Nat.le_refl _) (.cells #[.int .u8 K, .int .u32 I, .string N, .int .u32 C] 60))
  have hsz : w.heap.size < (w.alloc (.cells #[.int .u8 K, .int .u32 I, .string N, .int .u32 C] 60)).heap.size := by simp
  unfold vK
  dsimp only
  cases hq : okK ⟨K, I, N, C⟩
  · have HQ := Lib.hid (chK_no hq)
    rw [hq] at HC
    clear hq HW
    go_enter Tryz.func40, Tryz.ntmps40
    go_wp2_with fail
    change Calls _ _ _ (w.alloc (.cells #[.int .u8 K, .int .u32 I, .string N, .int .u32 C] 60)) _
    generalize w.alloc (.cells #[.int .u8 K, .int .u32 I, .string N, .int .u32 C] 60) = W at *
    refine (HC.out W).mono ?_
    rintro e w1 ⟨rfl, hb⟩
    have B1 := Lib.hid (B0.out.trans (hb.mono B0.out.size))
    clear C0 C1 C2 C3 hb B0 HC
    go_wp2
    go_ret2
    exact ⟨by rw [HQ.out.1, HQ.out.2]; rfl, B1.out⟩
  · have HQ := Lib.hid (chK_yes hq)
    have HW2 := Lib.hid (HW.out (by have := okK_size hq; dsimp only at this ⊢; omega))
    rw [hq] at HC
    clear hq HW
    go_enter Tryz.func40, Tryz.ntmps40
    go_wp2_with fail
    change Calls _ _ _ (w.alloc (.cells #[.int .u8 K, .int .u32 I, .string N, .int .u32 C] 60)) _
    generalize w.alloc (.cells #[.int .u8 K, .int .u32 I, .string N, .int .u32 C] 60) = W at *
    refine (HC.out W).mono ?_
    rintro e w1 ⟨rfl, hb⟩
    have D0 := (Below.cell hb (p := ⟨w.heap.size, 0, none⟩) hsz).trans C0
    have D1 := (Below.cell hb (p := ⟨w.heap.size, 1, none⟩) hsz).trans C1
    have D2 := (Below.cell hb (p := ⟨w.heap.size, 2, none⟩) hsz).trans C2
    have D3 := (Below.cell hb (p := ⟨w.heap.size, 3, none⟩) hsz).trans C3
    have B1 := Lib.hid (B0.out.trans (hb.mono B0.out.size))
    clear C0 C1 C2 C3 hb B0 HC
    go_wp2_with (go_at_call 56; refine (HW2.out _).mono ?_; rintro e w' ⟨rfl, hb⟩)
    go_ret2
    exact ⟨by rw [HQ.out.1, HQ.out.2]; rfl, B1.out.trans (hb.mono B1.out.size)⟩
end Go.Proofs.YtcnggidihkcndaaGreatDoor.Ino
/- Contracts of package inode: bytes read as a key. -/
namespace Go.Proofs.YtcnggidihkcndaaGreatDoor.Ino
set_option linter.unusedVariables false
set_option linter.unusedSimpArgs false
open Go.ChangeShapes Go.WideShapes Go.ChangeAt Go.RowKit
open Rg
open Pk (be num be_length num_be num_lt bs bs_size nB nE tN tR tE xB_size)
open Ph (has tl tl_len nb contains_any name_any)
theorem row4 (K I C : Int) (N : ByteArray) : (#[.int .u8 K, .int .u32 I, .string N, .int .u32 C] : Array Value).all (·.oneCell') = true := by simp [Value.oneCell']
theorem set_far {w : World} {g : Nat} {o : Obj} (h : w.heap[g]? = some o) {a : Addr} (ha : g ≠ a.block) (v : Value) : (w.setCell a v).heap[g]? = some o := (Below.heap_setCell w a v g ha).trans h
set_option maxRecDepth 100000 in
set_option maxHeartbeats 4000000 in
theorem takenKey_in (s : ByteArray) (hs : s.size ≤ maxLen) (w : World) :
    Calls Tryz.prog 39 #[.string s] w fun e w' => e = .returned (vK (tkK s)) ∧ Below w.heap.size w w' := by
  have hlim := tkK_lim s
  obtain ⟨K, hK⟩ : ∃ K, kd s = K := ⟨_, rfl⟩
  obtain ⟨r0, hr0⟩ : ∃ r, rs s = r := ⟨_, rfl⟩
  obtain ⟨I, hI⟩ : ∃ K, (tN r0 ((4 : Nat) : Int)).toNat = K := ⟨_, rfl⟩
  obtain ⟨r1, hr1⟩ : ∃ r, tR r0 ((4 : Nat) : Int) = r := ⟨_, rfl⟩
  obtain ⟨C, hC⟩ : ∃ K, (tN r1 ((4 : Nat) : Int)).toNat = K := ⟨_, rfl⟩
  obtain ⟨r2, hr2⟩ : ∃ r, tR r1 ((4 : Nat) : Int) = r := ⟨_, rfl⟩
  have hn : tkK s = ⟨K, I, if K = 2 ∨ K = 4 then r1 else ByteArray.empty, if K = 3 then C else 0⟩ := by subst hK hr0 hI hr1 hC hr2; rfl
  have z0 : r0.size ≤ maxLen := by
    rw [← hr0]
    unfold rs
    split
    · exact hs
    · rw [ByteArray.size_extract]; omega
  have z1 : r1.size ≤ maxLen := by rw [← hr1]; exact Nat.le_trans (tR_le _ _) z0
  have hC4 : C < 4294967296 := by have := tN4 r1; rw [← hC]; have h2 : (tN r1 ((4 : Nat) : Int)) = tN r1 4 := rfl; omega
  have CT := Lib.hid (fun g b w h => take_in s g b w h)
  rw [hK, hr0] at CT
  have C1 := Lib.hid (takeNat r0 4 I r1 z0 (by omega) hI hr1)
  have C2 := Lib.hid (takeNat r1 4 C r2 z1 (by omega) hC hr2)
  rw [hn] at hlim ⊢
  obtain ⟨l1, l2, l3⟩ := hlim
  dsimp only at l1 l2 l3
  have U1 := Lib.hid (u32_id l2)
  have U2 := Lib.hid (u32_id hC4)
  clear hn hK hr0 hI hr1 hC hr2 z0 z1 l1 l2 l3 hs hC4
  have R0 := Lib.hid (heap_alloc_new w (.cells #[.int .u8 0, .int .u32 0, .string ⟨#[]⟩, .int .u32 0] 60))
  have B0 := Lib.hid ((Below.refl w.heap.size w).alloc (Nat.le_refl _) (.cells #[.int .u8 0, .int .u32 0, .string ⟨#[]⟩, .int .u32 0] 60))
  have hsz : (w.alloc (.cells #[.int .u8 0, .int .u32 0, .string ⟨#[]⟩, .int .u32 0] 60)).heap.size = w.heap.size + 1 := by simp
  have HZ := Lib.hid hsz
  clear hsz
  obtain ⟨X, hX⟩ : ∃ X, (if K = 2 ∨ K = 4 then r1 else ByteArray.empty) = X := ⟨_, rfl⟩
  obtain ⟨Y, hY⟩ : ∃ Y, (if K = 3 then C else 0) = Y := ⟨_, rfl⟩
  have HX := Lib.hid hX
  have HY := Lib.hid hY
  rw [hX, hY]
  clear hX hY
  unfold vK
  dsimp only
  go_enter Tryz.func39, Tryz.ntmps39
  go_wp2_with fail
  change Calls _ _ _ ((w.alloc (.cells #[.int .u8 0, .int .u32 0, .string ⟨#[]⟩, .int .u32 0] 60)).alloc (.cells #[.int .u32 0, .int .i32 0, .int .u32 0, .string ⟨#[]⟩, .string ⟨#[]⟩, .string ⟨#[]⟩, .string ⟨#[]⟩, .string ⟨#[]⟩] 91)) _
  generalize w.alloc (.cells #[.int .u8 0, .int .u32 0, .string ⟨#[]⟩, .int .u32 0] 60) = W at *
  have HL := Lib.hid (new_letters W)
  rw [HZ.out] at HL
  have B1 := Lib.hid ((Below.refl W.heap.size W).alloc (Nat.le_refl _) (.cells #[.int .u32 0, .int .i32 0, .int .u32 0, .string ⟨#[]⟩, .string ⟨#[]⟩, .string ⟨#[]⟩, .string ⟨#[]⟩, .string ⟨#[]⟩] 91))
  refine (CT.out (w.heap.size + 1) false _ HL.out).mono ?_
  rintro e w1 ⟨rfl, hb⟩
  have hb' : Below W.heap.size W w1 := B1.out.trans (by rw [HZ.out]; exact hb)
  have R1 := Lib.hid (row_bel R0.out hb' (by rw [HZ.out]; omega))
  have B2 := Lib.hid (B0.out.trans (hb'.mono (by rw [HZ.out]; omega)))
  have hsz : w.heap.size < w1.heap.size := by have h1 := hb'.size; have h2 := HZ.out; omega
  clear hb hb' B1 B0 R0 HL HZ CT
  go_wp2_with fail
  refine (C1.out _).mono ?_
  rintro e w2 ⟨rfl, hb⟩
  have R2 := Lib.hid (row_bel R1.out hb hsz)
  have B3 := Lib.hid (B2.out.trans (hb.mono B2.out.size))
  replace hsz := Nat.lt_of_lt_of_le hsz hb.size
  clear hb R1 B2 C1
  have N1 := Lib.hid (new_row2 (old := #[.int .u8 0, .int .u32 0, .string ⟨#[]⟩, .int .u32 0]) (cs := #[.int .u8 K, .int .u32 I, .string ⟨#[]⟩, .int .u32 0]) (t := 60) R2.out)
  have u1 := U1.out
  have fin : Hid (∀ (V : World), V.heap[w.heap.size]? = some (.cells #[.int .u8 0, .int .u32 0, .string ⟨#[]⟩, .int .u32 0] 60 (0, 0)) → ∀ cs, (V.setRow w.heap.size cs).heap[w.heap.size]? = some (.cells cs 60 (0, 0))) := Lib.hid (fun V h cs => setRow_heap' h)
  cases k3 : decide (K = 3)
  · have K3 := eqz3 k3
    have k3' := of_decide_eq_false k3
    cases k24 : decide (K = 2 ∨ K = 4)
    · have k24' := of_decide_eq_false k24
      have K2 := eqz2 (a := K) (q := false) (by rw [decide_eq_false (by omega)])
      have K4 := eqz4 (a := K) (q := false) (by rw [decide_eq_false (by omega)])
      have HX1 := Lib.hid (show X = ByteArray.empty by rw [← HX.out, if_neg k24'])
      have HY1 := Lib.hid (show Y = 0 by rw [← HY.out, if_neg k3'])
      clear k3 k3' k24 k24'
      go_wp2_with (first
        | (refine wpList_store_row rfl 60 (.tmp 7) (.tmp 23) rfl w2.heap.size #[.int .u8 K, .int .u32 I, .string ⟨#[]⟩, .int .u32 0] rfl rfl 60 #[.int .u8 0, .int .u32 0, .string ⟨#[]⟩, .int .u32 0] (heap_alloc_new w2 _) (by kernel_rfl) rfl (row4 _ _ _ _) ?_; change wpList _ _ _ _ _ ((w2.alloc (.cells #[.int .u8 0, .int .u32 0, .string ⟨#[]⟩, .int .u32 0] 60)).setRow w2.heap.size #[.int .u8 K, .int .u32 I, .string ⟨#[]⟩, .int .u32 0]); generalize ((w2.alloc (.cells #[.int .u8 0, .int .u32 0, .string ⟨#[]⟩, .int .u32 0] 60)).setRow w2.heap.size #[.int .u8 K, .int .u32 I, .string ⟨#[]⟩, .int .u32 0]) = W3 at *; have c0 : W3.cell? ⟨w2.heap.size, 0, none⟩ = some (.int .u8 K) := (cell_of_row W3 w2.heap.size 0 #[.int .u8 K, .int .u32 I, .string ⟨#[]⟩, .int .u32 0] 60 (0, 0) N1.out.2.1).trans rfl; have f0 : W3.frozen? ⟨w2.heap.size, 0, none⟩ = false := frozen_of_row W3 w2.heap.size 0 #[.int .u8 K, .int .u32 I, .string ⟨#[]⟩, .int .u32 0] 60 N1.out.2.1; have c1 : W3.cell? ⟨w2.heap.size, 1, none⟩ = some (.int .u32 I) := (cell_of_row W3 w2.heap.size 1 #[.int .u8 K, .int .u32 I, .string ⟨#[]⟩, .int .u32 0] 60 (0, 0) N1.out.2.1).trans rfl; have f1 : W3.frozen? ⟨w2.heap.size, 1, none⟩ = false := frozen_of_row W3 w2.heap.size 1 #[.int .u8 K, .int .u32 I, .string ⟨#[]⟩, .int .u32 0] 60 N1.out.2.1; have c2 : W3.cell? ⟨w2.heap.size, 2, none⟩ = some (.string ⟨#[]⟩) := (cell_of_row W3 w2.heap.size 2 #[.int .u8 K, .int .u32 I, .string ⟨#[]⟩, .int .u32 0] 60 (0, 0) N1.out.2.1).trans rfl; have f2 : W3.frozen? ⟨w2.heap.size, 2, none⟩ = false := frozen_of_row W3 w2.heap.size 2 #[.int .u8 K, .int .u32 I, .string ⟨#[]⟩, .int .u32 0] 60 N1.out.2.1; have c3 : W3.cell? ⟨w2.heap.size, 3, none⟩ = some (.int .u32 0) := (cell_of_row W3 w2.heap.size 3 #[.int .u8 K, .int .u32 I, .string ⟨#[]⟩, .int .u32 0] 60 (0, 0) N1.out.2.1).trans rfl; have f3 : W3.frozen? ⟨w2.heap.size, 3, none⟩ = false := frozen_of_row W3 w2.heap.size 3 #[.int .u8 K, .int .u32 I, .string ⟨#[]⟩, .int .u32 0] 60 N1.out.2.1)
        | (refine wpList_load_row rfl 60 (.tmp 7) rfl w2.heap.size rfl 60 #[.int .u8 K, .int .u32 I, .string ⟨#[]⟩, .int .u32 0] (0, 0) _ N1.out.2.1 Tryz.underlying60 rfl (by kernel_rfl) ?_)
        | (refine wpList_store_row rfl 60 (.tmp 2) (.tmp 40) rfl w.heap.size #[.int .u8 K, .int .u32 I, .string ⟨#[]⟩, .int .u32 0] rfl rfl 60 #[.int .u8 0, .int .u32 0, .string ⟨#[]⟩, .int .u32 0] N1.out.1 (by kernel_rfl) rfl (row4 _ _ _ _) ?_))
      refine bodyPost_ret (v := .agg #[.int .u8 K, .int .u32 I, .string ⟨#[]⟩, .int .u32 0]) (results_cell_row rfl _ _ w.heap.size 60 #[.int .u8 K, .int .u32 I, .string ⟨#[]⟩, .int .u32 0] (0, 0) _ rfl (fin.out _ N1.out.1 _) Tryz.underlying60 rfl (by kernel_rfl)) rfl ?_
      exact ⟨by rw [HX1.out, HY1.out]; rfl, below_setRow (B3.out.trans (N1.out.2.2.1.mono B3.out.size)) (Nat.le_refl _) _⟩
    · have k24' := of_decide_eq_true k24
      have HX1 := Lib.hid (show X = r1 by rw [← HX.out, if_pos k24'])
      have HY1 := Lib.hid (show Y = 0 by rw [← HY.out, if_neg k3'])
      have KQ : (((K : Int) == 2) = true) ∨ (((K : Int) == 2) = false ∧ ((K : Int) == 4) = true) := by
        rcases k24' with h | h
        · exact .inl (eqz2 (decide_eq_true h))
        · exact .inr ⟨eqz2 (decide_eq_false (by omega)), eqz4 (decide_eq_true h)⟩
      clear k3 k3' k24 k24'
      have hne : w.heap.size ≠ w2.heap.size := Nat.ne_of_lt hsz
      rcases KQ with K2 | ⟨K2, K4⟩
      all_goals
        go_wp2_with (first
          | (refine wpList_store_row rfl 60 (.tmp 7) (.tmp 23) rfl w2.heap.size #[.int .u8 K, .int .u32 I, .string ⟨#[]⟩, .int .u32 0] rfl rfl 60 #[.int .u8 0, .int .u32 0, .string ⟨#[]⟩, .int .u32 0] (heap_alloc_new w2 _) (by kernel_rfl) rfl (row4 _ _ _ _) ?_; change wpList _ _ _ _ _ ((w2.alloc (.cells #[.int .u8 0, .int .u32 0, .string ⟨#[]⟩, .int .u32 0] 60)).setRow w2.heap.size #[.int .u8 K, .int .u32 I, .string ⟨#[]⟩, .int .u32 0]); generalize ((w2.alloc (.cells #[.int .u8 0, .int .u32 0, .string ⟨#[]⟩, .int .u32 0] 60)).setRow w2.heap.size #[.int .u8 K, .int .u32 I, .string ⟨#[]⟩, .int .u32 0]) = W3 at *; have c0 : W3.cell? ⟨w2.heap.size, 0, none⟩ = some (.int .u8 K) := (cell_of_row W3 w2.heap.size 0 #[.int .u8 K, .int .u32 I, .string ⟨#[]⟩, .int .u32 0] 60 (0, 0) N1.out.2.1).trans rfl; have f0 : W3.frozen? ⟨w2.heap.size, 0, none⟩ = false := frozen_of_row W3 w2.heap.size 0 #[.int .u8 K, .int .u32 I, .string ⟨#[]⟩, .int .u32 0] 60 N1.out.2.1; have c1 : W3.cell? ⟨w2.heap.size, 1, none⟩ = some (.int .u32 I) := (cell_of_row W3 w2.heap.size 1 #[.int .u8 K, .int .u32 I, .string ⟨#[]⟩, .int .u32 0] 60 (0, 0) N1.out.2.1).trans rfl; have f1 : W3.frozen? ⟨w2.heap.size, 1, none⟩ = false := frozen_of_row W3 w2.heap.size 1 #[.int .u8 K, .int .u32 I, .string ⟨#[]⟩, .int .u32 0] 60 N1.out.2.1; have c2 : W3.cell? ⟨w2.heap.size, 2, none⟩ = some (.string ⟨#[]⟩) := (cell_of_row W3 w2.heap.size 2 #[.int .u8 K, .int .u32 I, .string ⟨#[]⟩, .int .u32 0] 60 (0, 0) N1.out.2.1).trans rfl; have f2 : W3.frozen? ⟨w2.heap.size, 2, none⟩ = false := frozen_of_row W3 w2.heap.size 2 #[.int .u8 K, .int .u32 I, .string ⟨#[]⟩, .int .u32 0] 60 N1.out.2.1; have c3 : W3.cell? ⟨w2.heap.size, 3, none⟩ = some (.int .u32 0) := (cell_of_row W3 w2.heap.size 3 #[.int .u8 K, .int .u32 I, .string ⟨#[]⟩, .int .u32 0] 60 (0, 0) N1.out.2.1).trans rfl; have f3 : W3.frozen? ⟨w2.heap.size, 3, none⟩ = false := frozen_of_row W3 w2.heap.size 3 #[.int .u8 K, .int .u32 I, .string ⟨#[]⟩, .int .u32 0] 60 N1.out.2.1)
          | (refine wpList_store_row rfl 60 (.tmp 2) (.tmp 40) rfl w.heap.size #[.int .u8 K, .int .u32 I, .string r1, .int .u32 0] rfl rfl 60 #[.int .u8 0, .int .u32 0, .string ⟨#[]⟩, .int .u32 0] (set_far N1.out.1 (a := ⟨w2.heap.size, 2, none⟩) hne _) (by kernel_rfl) rfl (row4 _ _ _ _) ?_))
        refine bodyPost_ret (v := .agg #[.int .u8 K, .int .u32 I, .string r1, .int .u32 0]) (results_cell_row rfl _ _ w.heap.size 60 #[.int .u8 K, .int .u32 I, .string r1, .int .u32 0] (0, 0) _ rfl (fin.out _ (set_far N1.out.1 (a := ⟨w2.heap.size, 2, none⟩) hne _) _) Tryz.underlying60 rfl (by kernel_rfl)) rfl ?_
        exact ⟨by rw [HX1.out, HY1.out]; rfl, below_setRow ((B3.out.trans (N1.out.2.2.1.mono B3.out.size)).setCell (Nat.le_of_lt hsz) _) (Nat.le_refl _) _⟩
  · have K3 := eqz3 k3
    have k3' := of_decide_eq_true k3
    have K2 := eqz2 (a := K) (q := false) (by rw [decide_eq_false (by omega)])
    have K4 := eqz4 (a := K) (q := false) (by rw [decide_eq_false (by omega)])
    have HX1 := Lib.hid (show X = ByteArray.empty by rw [← HX.out, if_neg (by omega)])
    have HY1 := Lib.hid (show Y = C by rw [← HY.out, if_pos k3'])
    have hne : w.heap.size ≠ w2.heap.size := Nat.ne_of_lt hsz
    clear k3 k3'
    go_wp2_with (refine wpList_store_row rfl 60 (.tmp 7) (.tmp 23) rfl w2.heap.size #[.int .u8 K, .int .u32 I, .string ⟨#[]⟩, .int .u32 0] rfl rfl 60 #[.int .u8 0, .int .u32 0, .string ⟨#[]⟩, .int .u32 0] (heap_alloc_new w2 _) (by kernel_rfl) rfl (row4 _ _ _ _) ?_; change wpList _ _ _ _ _ ((w2.alloc (.cells #[.int .u8 0, .int .u32 0, .string ⟨#[]⟩, .int .u32 0] 60)).setRow w2.heap.size #[.int .u8 K, .int .u32 I, .string ⟨#[]⟩, .int .u32 0]); generalize ((w2.alloc (.cells #[.int .u8 0, .int .u32 0, .string ⟨#[]⟩, .int .u32 0] 60)).setRow w2.heap.size #[.int .u8 K, .int .u32 I, .string ⟨#[]⟩, .int .u32 0]) = W3 at *; have c0 : W3.cell? ⟨w2.heap.size, 0, none⟩ = some (.int .u8 K) := (cell_of_row W3 w2.heap.size 0 #[.int .u8 K, .int .u32 I, .string ⟨#[]⟩, .int .u32 0] 60 (0, 0) N1.out.2.1).trans rfl; have f0 : W3.frozen? ⟨w2.heap.size, 0, none⟩ = false := frozen_of_row W3 w2.heap.size 0 #[.int .u8 K, .int .u32 I, .string ⟨#[]⟩, .int .u32 0] 60 N1.out.2.1; have c1 : W3.cell? ⟨w2.heap.size, 1, none⟩ = some (.int .u32 I) := (cell_of_row W3 w2.heap.size 1 #[.int .u8 K, .int .u32 I, .string ⟨#[]⟩, .int .u32 0] 60 (0, 0) N1.out.2.1).trans rfl; have f1 : W3.frozen? ⟨w2.heap.size, 1, none⟩ = false := frozen_of_row W3 w2.heap.size 1 #[.int .u8 K, .int .u32 I, .string ⟨#[]⟩, .int .u32 0] 60 N1.out.2.1; have c2 : W3.cell? ⟨w2.heap.size, 2, none⟩ = some (.string ⟨#[]⟩) := (cell_of_row W3 w2.heap.size 2 #[.int .u8 K, .int .u32 I, .string ⟨#[]⟩, .int .u32 0] 60 (0, 0) N1.out.2.1).trans rfl; have f2 : W3.frozen? ⟨w2.heap.size, 2, none⟩ = false := frozen_of_row W3 w2.heap.size 2 #[.int .u8 K, .int .u32 I, .string ⟨#[]⟩, .int .u32 0] 60 N1.out.2.1; have c3 : W3.cell? ⟨w2.heap.size, 3, none⟩ = some (.int .u32 0) := (cell_of_row W3 w2.heap.size 3 #[.int .u8 K, .int .u32 I, .string ⟨#[]⟩, .int .u32 0] 60 (0, 0) N1.out.2.1).trans rfl; have f3 : W3.frozen? ⟨w2.heap.size, 3, none⟩ = false := frozen_of_row W3 w2.heap.size 3 #[.int .u8 K, .int .u32 I, .string ⟨#[]⟩, .int .u32 0] 60 N1.out.2.1)
    refine (C2.out _).mono ?_
    rintro e w4 ⟨rfl, hb⟩
    have R4 := Lib.hid (row_bel N1.out.1 hb (by have h1 := N1.out.2.2.2; omega))
    have Rn := Lib.hid (row_bel N1.out.2.1 hb N1.out.2.2.2)
    have B4 := Lib.hid (B3.out.trans ((N1.out.2.2.1.trans (hb.mono N1.out.2.2.1.size)).mono B3.out.size))
    have d0 : w4.cell? ⟨w2.heap.size, 0, none⟩ = some (.int .u8 K) := (cell_of_row w4 w2.heap.size 0 #[.int .u8 K, .int .u32 I, .string ⟨#[]⟩, .int .u32 0] 60 (0, 0) Rn.out).trans rfl
    have g0 : w4.frozen? ⟨w2.heap.size, 0, none⟩ = false := frozen_of_row w4 w2.heap.size 0 #[.int .u8 K, .int .u32 I, .string ⟨#[]⟩, .int .u32 0] 60 Rn.out
    have d1 : w4.cell? ⟨w2.heap.size, 1, none⟩ = some (.int .u32 I) := (cell_of_row w4 w2.heap.size 1 #[.int .u8 K, .int .u32 I, .string ⟨#[]⟩, .int .u32 0] 60 (0, 0) Rn.out).trans rfl
    have g1 : w4.frozen? ⟨w2.heap.size, 1, none⟩ = false := frozen_of_row w4 w2.heap.size 1 #[.int .u8 K, .int .u32 I, .string ⟨#[]⟩, .int .u32 0] 60 Rn.out
    have d2 : w4.cell? ⟨w2.heap.size, 2, none⟩ = some (.string ⟨#[]⟩) := (cell_of_row w4 w2.heap.size 2 #[.int .u8 K, .int .u32 I, .string ⟨#[]⟩, .int .u32 0] 60 (0, 0) Rn.out).trans rfl
    have g2 : w4.frozen? ⟨w2.heap.size, 2, none⟩ = false := frozen_of_row w4 w2.heap.size 2 #[.int .u8 K, .int .u32 I, .string ⟨#[]⟩, .int .u32 0] 60 Rn.out
    have d3 : w4.cell? ⟨w2.heap.size, 3, none⟩ = some (.int .u32 0) := (cell_of_row w4 w2.heap.size 3 #[.int .u8 K, .int .u32 I, .string ⟨#[]⟩, .int .u32 0] 60 (0, 0) Rn.out).trans rfl
    have g3 : w4.frozen? ⟨w2.heap.size, 3, none⟩ = false := frozen_of_row w4 w2.heap.size 3 #[.int .u8 K, .int .u32 I, .string ⟨#[]⟩, .int .u32 0] 60 Rn.out
    clear hb c0 c1 c2 c3 f0 f1 f2 f3 N1 B3 C2
    have u2 := U2.out
    go_wp2_with (refine wpList_store_row rfl 60 (.tmp 2) (.tmp 40) rfl w.heap.size #[.int .u8 K, .int .u32 I, .string ⟨#[]⟩, .int .u32 C] rfl rfl 60 #[.int .u8 0, .int .u32 0, .string ⟨#[]⟩, .int .u32 0] (set_far R4.out (a := ⟨w2.heap.size, 3, none⟩) hne _) (by kernel_rfl) rfl (row4 _ _ _ _) ?_)
    refine bodyPost_ret (v := .agg #[.int .u8 K, .int .u32 I, .string ⟨#[]⟩, .int .u32 C]) (results_cell_row rfl _ _ w.heap.size 60 #[.int .u8 K, .int .u32 I, .string ⟨#[]⟩, .int .u32 C] (0, 0) _ rfl (fin.out _ (set_far R4.out (a := ⟨w2.heap.size, 3, none⟩) hne _) _) Tryz.underlying60 rfl (by kernel_rfl)) rfl ?_
    exact ⟨by rw [HX1.out, HY1.out]; rfl, below_setRow (B4.out.setCell (Nat.le_of_lt hsz) _) (Nat.le_refl _) _⟩
set_option maxRecDepth 100000 in
set_option maxHeartbeats 2000000 in
theorem parse_in (s : ByteArray) (hs : s.size ≤ maxLen) (w : World) :
    Calls Tryz.prog 24 #[.string s] w fun e w' => e = .returned (.tuple #[vK (deK s), .int .i64 (deKE s)]) ∧ Below w.heap.size w w' := by
  have CT := Lib.hid (takenKey_in s hs)
  have hlim := tkK_lim s
  have HI : Hid (deK s = if okK (tkK s) = true ∧ wrK (tkK s) = s then tkK s else zKy) := Lib.hid rfl
  have HX : Hid (deKE s = if okK (tkK s) = true ∧ wrK (tkK s) = s then 0 else 4) := Lib.hid rfl
  generalize tkK s = n at *
  have CE := Lib.hid (key_in n hlim)
  have HE := Lib.hid (@chK_yes n)
  have HF := Lib.hid (@chK_no n)
  obtain ⟨K, I, N, C⟩ := n
  unfold vK at CT CE
  dsimp only at CT CE
  have R0 := Lib.hid (heap_alloc_new w (.cells #[.int .u8 0, .int .u32 0, .string ⟨#[]⟩, .int .u32 0] 60))
  have B0 := Lib.hid ((Below.refl w.heap.size w).alloc (Nat.le_refl _) (.cells #[.int .u8 0, .int .u32 0, .string ⟨#[]⟩, .int .u32 0] 60))
  have hsz : w.heap.size < (w.alloc (.cells #[.int .u8 0, .int .u32 0, .string ⟨#[]⟩, .int .u32 0] 60)).heap.size := by simp
  clear hs
  go_enter Tryz.func24, Tryz.ntmps24
  go_wp2_with fail
  change Calls _ _ _ (w.alloc (.cells #[.int .u8 0, .int .u32 0, .string ⟨#[]⟩, .int .u32 0] 60)) _
  generalize w.alloc (.cells #[.int .u8 0, .int .u32 0, .string ⟨#[]⟩, .int .u32 0] 60) = W at *
  refine (CT.out _).mono ?_
  rintro e w1 ⟨rfl, hb⟩
  have R1 := Lib.hid (row_bel R0.out hb hsz)
  have B1 := Lib.hid (B0.out.trans (hb.mono B0.out.size))
  have N1 := Lib.hid (new_row (old := #[.int .u8 0, .int .u32 0, .string ⟨#[]⟩, .int .u32 0]) (cs := #[.int .u8 K, .int .u32 I, .string N, .int .u32 C]) (t := 60) R1.out rfl)
  clear hb R0 B0 CT
  go_wp2_with (first
    | (refine wpList_store_row rfl 60 (.tmp 4) (.tmp 8) rfl w1.heap.size #[.int .u8 K, .int .u32 I, .string N, .int .u32 C] rfl rfl 60 #[.int .u8 0, .int .u32 0, .string ⟨#[]⟩, .int .u32 0] (heap_alloc_new w1 _) (by kernel_rfl) rfl (row4 _ _ _ _) ?_; change wpList _ _ _ _ _ ((w1.alloc (.cells #[.int .u8 0, .int .u32 0, .string ⟨#[]⟩, .int .u32 0] 60)).setRow w1.heap.size #[.int .u8 K, .int .u32 I, .string N, .int .u32 C]); generalize ((w1.alloc (.cells #[.int .u8 0, .int .u32 0, .string ⟨#[]⟩, .int .u32 0] 60)).setRow w1.heap.size #[.int .u8 K, .int .u32 I, .string N, .int .u32 C]) = W2 at *)
    | (refine wpList_load_row rfl 60 (.tmp 4) rfl w1.heap.size rfl 60 #[.int .u8 K, .int .u32 I, .string N, .int .u32 C] (0, 0) _ N1.out.2.1 Tryz.underlying60 rfl (by kernel_rfl) ?_))
  refine (CE.out _).mono ?_
  rintro e w3 ⟨rfl, hb⟩
  have hlt2 : w1.heap.size < W2.heap.size := by
    rcases Nat.lt_or_ge w1.heap.size W2.heap.size with h' | h'
    · exact h'
    · have := N1.out.2.1; rw [Array.getElem?_eq_none h'] at this; cases this
  have Rg := Lib.hid (row_bel N1.out.1 hb (by have := B1.out.size; omega))
  have Rn := Lib.hid (row_bel N1.out.2.1 hb hlt2)
  have B3 := Lib.hid (B1.out.trans ((N1.out.2.2.trans (hb.mono N1.out.2.2.size)).mono B1.out.size))
  clear hb N1 CE R1 B1 hlt2 hsz
  have hz := setRow_heap' (cs := #[.int .u8 0, .int .u32 0, .string ⟨#[]⟩, .int .u32 0]) Rg.out
  have hr := setRow_heap' (cs := #[.int .u8 K, .int .u32 I, .string N, .int .u32 C]) Rg.out
  have HZ := Lib.hid hz
  have HR := Lib.hid hr
  clear hz hr
  cases hq : okK ⟨K, I, N, C⟩
  · obtain ⟨e1, e2⟩ := HF.out hq
    have H1 := Lib.hid (show deK s = zKy by rw [HI.out, if_neg (by rw [hq]; rintro ⟨h, _⟩; cases h)])
    have H2 := Lib.hid (show deKE s = 4 by rw [HX.out, if_neg (by rw [hq]; rintro ⟨h, _⟩; cases h)])
    rw [e1]
    clear hq e1 e2 HE HF HI HX
    go_wp2_with (refine wpList_store_row rfl 60 (.tmp 2) (.tmp 21) rfl w.heap.size #[.int .u8 0, .int .u32 0, .string ⟨#[]⟩, .int .u32 0] rfl rfl 60 #[.int .u8 0, .int .u32 0, .string ⟨#[]⟩, .int .u32 0] Rg.out (by kernel_rfl) rfl (row4 _ _ _ _) ?_)
    refine bodyPost_ret (v := .tuple #[.agg #[.int .u8 0, .int .u32 0, .string ⟨#[]⟩, .int .u32 0], .int .i64 4]) (results_row2 rfl _ _ w.heap.size 60 #[.int .u8 0, .int .u32 0, .string ⟨#[]⟩, .int .u32 0] (0, 0) _ rfl HZ.out Tryz.underlying60 rfl (by kernel_rfl) _ rfl) rfl ?_
    exact ⟨by rw [H1.out, H2.out]; rfl, below_setRow B3.out (Nat.le_refl _) _⟩
  · obtain ⟨e1, e2⟩ := HE.out hq
    by_cases hw : wrK ⟨K, I, N, C⟩ = s
    · obtain ⟨s1, s2⟩ := eq_str s
      have H1 := Lib.hid (show deK s = ⟨K, I, N, C⟩ by rw [HI.out, if_pos ⟨hq, hw⟩])
      have H2 := Lib.hid (show deKE s = 0 by rw [HX.out, if_pos ⟨hq, hw⟩])
      rw [e1, e2, hw]
      clear hq hw e1 e2 HE HF HI HX
      go_wp2_with (first
        | (refine wpList_load_row rfl 60 (.tmp 4) rfl w1.heap.size rfl 60 #[.int .u8 K, .int .u32 I, .string N, .int .u32 C] (0, 0) _ Rn.out Tryz.underlying60 rfl (by kernel_rfl) ?_)
        | (refine wpList_store_row rfl 60 (.tmp 2) (.tmp 22) rfl w.heap.size #[.int .u8 K, .int .u32 I, .string N, .int .u32 C] rfl rfl 60 #[.int .u8 0, .int .u32 0, .string ⟨#[]⟩, .int .u32 0] Rg.out (by kernel_rfl) rfl (row4 _ _ _ _) ?_))
      refine bodyPost_ret (v := .tuple #[.agg #[.int .u8 K, .int .u32 I, .string N, .int .u32 C], .int .i64 0]) (results_row2 rfl _ _ w.heap.size 60 #[.int .u8 K, .int .u32 I, .string N, .int .u32 C] (0, 0) _ rfl HR.out Tryz.underlying60 rfl (by kernel_rfl) _ rfl) rfl ?_
      exact ⟨by rw [H1.out, H2.out]; rfl, below_setRow B3.out (Nat.le_refl _) _⟩
    · obtain ⟨s1, s2⟩ := ne_str hw
      have H1 := Lib.hid (show deK s = zKy by rw [HI.out, if_neg (fun h => hw h.2)])
      have H2 := Lib.hid (show deKE s = 4 by rw [HX.out, if_neg (fun h => hw h.2)])
      rw [e1, e2]
      clear hq hw e1 e2 HE HF HI HX
      go_wp2_with (refine wpList_store_row rfl 60 (.tmp 2) (.tmp 21) rfl w.heap.size #[.int .u8 0, .int .u32 0, .string ⟨#[]⟩, .int .u32 0] rfl rfl 60 #[.int .u8 0, .int .u32 0, .string ⟨#[]⟩, .int .u32 0] Rg.out (by kernel_rfl) rfl (row4 _ _ _ _) ?_)
      refine bodyPost_ret (v := .tuple #[.agg #[.int .u8 0, .int .u32 0, .string ⟨#[]⟩, .int .u32 0], .int .i64 4]) (results_row2 rfl _ _ w.heap.size 60 #[.int .u8 0, .int .u32 0, .string ⟨#[]⟩, .int .u32 0] (0, 0) _ rfl HZ.out Tryz.underlying60 rfl (by kernel_rfl) _ rfl) rfl ?_
      exact ⟨by rw [H1.out, H2.out]; rfl, below_setRow B3.out (Nat.le_refl _) _⟩
end Go.Proofs.YtcnggidihkcndaaGreatDoor.Ino
