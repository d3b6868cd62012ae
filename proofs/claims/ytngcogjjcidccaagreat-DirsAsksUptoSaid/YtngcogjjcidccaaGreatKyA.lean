/- Contracts of package inode: keys as bytes, there and back. -/
import Derived.Test.YtngcogjjcidccaaGreatInC
namespace Go.Proofs.YtngcogjjcidccaaGreat.Ino
set_option linter.unusedVariables false
set_option linter.unusedSimpArgs false
open Go.ChangeShapes Go.WideShapes Go.ChangeAt Go.RowKit
open Rg
open Pk (be num be_length num_be num_lt bs bs_size nB nE tN tR tE xB_size)
open Ph (has tl tl_len nb contains_any name_any)
theorem ltB_size {K : Nat} : (ltB K).size ≤ 1 := by
  unfold ltB lt
  rw [bs_size]
  repeat' split
  all_goals decide
theorem new_letters (w : World) : LtAt (w.alloc (.cells #[.int .u32 0, .int .i32 0, .int .u32 0, .string ⟨#[]⟩, .string ⟨#[]⟩, .string ⟨#[]⟩, .string ⟨#[]⟩, .string ⟨#[]⟩] 127)) w.heap.size false := by
  refine ⟨?_, fun i hi => ?_⟩
  · intro i v hv
    rw [Nat.zero_add]
    refine (cell_of_row (w.alloc (.cells #[.int .u32 0, .int .i32 0, .int .u32 0, .string ⟨#[]⟩, .string ⟨#[]⟩, .string ⟨#[]⟩, .string ⟨#[]⟩, .string ⟨#[]⟩] 127)) w.heap.size i #[.int .u32 0, .int .i32 0, .int .u32 0, .string ⟨#[]⟩, .string ⟨#[]⟩, .string ⟨#[]⟩, .string ⟨#[]⟩, .string ⟨#[]⟩] 127 (0, 0) (heap_alloc_new w _)).trans ?_
    rw [← hv]
    show (lRow false).toArray[i]? = (lRow false)[i]?
    exact List.getElem?_toArray ..
  · exact frozen_of_row (w.alloc (.cells #[.int .u32 0, .int .i32 0, .int .u32 0, .string ⟨#[]⟩, .string ⟨#[]⟩, .string ⟨#[]⟩, .string ⟨#[]⟩, .string ⟨#[]⟩] 127)) w.heap.size i #[.int .u32 0, .int .i32 0, .int .u32 0, .string ⟨#[]⟩, .string ⟨#[]⟩, .string ⟨#[]⟩, .string ⟨#[]⟩, .string ⟨#[]⟩] 127 (heap_alloc_new w _)
set_option maxRecDepth 100000 in
set_option maxHeartbeats 1000000 in
theorem prefix_in (K I : Nat) (hK : K < 256) (hI : I < 4294967296) (w : World) :
    Calls Tryz.prog 64 #[.int .u8 K, .int .u32 I] w fun e w' => e = .returned (.string (pfx K I)) ∧ Below w.heap.size w w' := by
  have HL := Lib.hid (new_letters w)
  have B0 := Lib.hid ((Below.refl w.heap.size w).alloc (Nat.le_refl _) (.cells #[.int .u32 0, .int .i32 0, .int .u32 0, .string ⟨#[]⟩, .string ⟨#[]⟩, .string ⟨#[]⟩, .string ⟨#[]⟩, .string ⟨#[]⟩] 127))
  have hz := ltB_size (K := K)
  have u := u64_id (n := I) (by omega)
  have HU := Lib.hid u
  have HN := Lib.hid (fun w => number_in I 4 w (by omega) (by omega) (by omega) (by omega))
  have hbz : (bs (be 4 I)).size = 4 := by rw [bs_size, be_length]
  clear u
  by_cases h0 : lt K = []
  · have HP := Lib.hid (show pfx K I = ByteArray.empty by unfold pfx; rw [if_pos h0])
    have e0 : (ltB K).size = 0 := by unfold ltB; rw [h0]; rfl
    obtain ⟨e1, e2⟩ := emp_of (decide_eq_true e0)
    have e3 := emp_yes e0
    clear h0 e0
    go_enter Tryz.func64, Tryz.ntmps64
    go_wp2_with fail
    change Calls _ _ _ (w.alloc (.cells #[.int .u32 0, .int .i32 0, .int .u32 0, .string ⟨#[]⟩, .string ⟨#[]⟩, .string ⟨#[]⟩, .string ⟨#[]⟩, .string ⟨#[]⟩] 127)) _
    refine (of_any w.heap.size K false hK _ HL.out).mono ?_
    rintro e w1 ⟨rfl, h1, hb⟩
    go_wp2
    go_ret
    exact ⟨by rw [HP.out]; rfl, B0.out.trans hb⟩
  · have HP := Lib.hid (show pfx K I = ltB K ++ bs (be 4 I) by unfold pfx; rw [if_neg h0]; rfl)
    have e0 : ¬ (ltB K).size = 0 := by
      unfold ltB
      rw [bs_size]
      intro h
      exact h0 (List.eq_nil_of_length_eq_zero h)
    obtain ⟨e1, e2⟩ := emp_of (decide_eq_false e0)
    have e3 := emp_no e0
    clear h0 e0
    go_enter Tryz.func64, Tryz.ntmps64
    go_wp2_with fail
    change Calls _ _ _ (w.alloc (.cells #[.int .u32 0, .int .i32 0, .int .u32 0, .string ⟨#[]⟩, .string ⟨#[]⟩, .string ⟨#[]⟩, .string ⟨#[]⟩, .string ⟨#[]⟩] 127)) _
    refine (of_any w.heap.size K false hK _ HL.out).mono ?_
    rintro e w1 ⟨rfl, h1, hb⟩
    have B1 := Lib.hid (B0.out.trans hb)
    clear hb h1
    have u := HU.out
    go_wp2_with (go_at_call 65; refine (HN.out _).mono ?_; rintro e w' ⟨rfl, hb⟩)
    go_ret
    exact ⟨by rw [HP.out]; rfl, B1.out.trans (hb.mono B1.out.size)⟩
/-- what a letter cuts off -/
theorem cut_letter (s : ByteArray) (K : Nat) (h1 : 1 ≤ K) (h2 : K ≤ 4) (w : World) :
    Calls Tryz.prog 59 #[.string s, .string (ltB K)] w fun e w' => e = .returned (.tuple #[.string (if kd s = K then s.extract 1 s.size else s), .bool (decide (kd s = K))]) ∧ w = w' := by
  refine (Tryz.strings_CutPrefix s (ltB K) w).mono ?_
  rintro e w' ⟨rfl, rfl⟩
  refine ⟨?_, rfl⟩
  have key : ∀ (c : UInt8) (l : List UInt8), Lib.hasPrefix l [c] = (l.head? == some c) := by
    intro c l
    cases l with
    | nil => rfl
    | cons a l =>
      show ((c : UInt8) == a && true) = (some a == some c)
      rw [Bool.and_true, Bool.eq_iff_iff, beq_iff_eq, beq_iff_eq]
      exact ⟨fun h => by rw [h], fun h => by injection h with h; exact h.symm⟩
  obtain ⟨c, hc, hkd⟩ : ∃ c : UInt8, ltB K = ⟨#[c]⟩ ∧ (kd s = K ↔ s.data.toList.head? = some c) := by
    have hk : ∀ c : UInt8, (match s.data.toList with | a :: _ => if a = 105 then 1 else if a = 100 then 2 else if a = 99 then 3 else if a = 120 then 4 else 0 | [] => 0) = kd s := fun _ => rfl
    rcases (show K = 1 ∨ K = 2 ∨ K = 3 ∨ K = 4 by omega) with rfl | rfl | rfl | rfl
    · refine ⟨105, rfl, ?_⟩
      unfold kd
      cases s.data.toList with
      | nil => simp
      | cons a l =>
        simp only [List.head?_cons, Option.some.injEq]
        by_cases e1 : a = 105
        · simp [e1]
        · rw [if_neg e1]; simp only [e1, iff_false]
          repeat' split
          all_goals omega
    · refine ⟨100, rfl, ?_⟩
      unfold kd
      cases s.data.toList with
      | nil => simp
      | cons a l =>
        simp only [List.head?_cons, Option.some.injEq]
        by_cases e1 : a = 100
        · simp [e1]
        · simp only [e1, if_false, iff_false]
          repeat' split
          all_goals omega
    · refine ⟨99, rfl, ?_⟩
      unfold kd
      cases s.data.toList with
      | nil => simp
      | cons a l =>
        simp only [List.head?_cons, Option.some.injEq]
        by_cases e1 : a = 99
        · simp [e1]
        · simp only [e1, if_false, iff_false]
          repeat' split
          all_goals omega
    · refine ⟨120, rfl, ?_⟩
      unfold kd
      cases s.data.toList with
      | nil => simp
      | cons a l =>
        simp only [List.head?_cons, Option.some.injEq]
        by_cases e1 : a = 120
        · simp [e1]
        · simp only [e1, if_false, iff_false]
          repeat' split
          all_goals omega
  rw [hc]
  have hp : Lib.hasPrefix s.data.toList [c] = decide (kd s = K) := by
    rw [key, Bool.eq_iff_iff, beq_iff_eq, decide_eq_true_iff]
    exact hkd.symm
  show Ending.returned (.tuple #[.string ⟨(Lib.trimPrefix s.data.toList [c]).toArray⟩, .bool (Lib.hasPrefix s.data.toList [c])]) = _
  unfold Lib.trimPrefix
  rw [hp]
  by_cases h : kd s = K
  · rw [decide_eq_true h, if_pos rfl, if_pos h]
    congr 4
    congr 1
    apply ByteArray.ext
    apply Array.toList_inj.1
    rw [ByteArray.data_extract, Array.toList_extract, List.extract_eq_take_drop, List.take_of_length_le (by rw [List.length_drop, Array.length_toList]; exact Nat.le_refl _)]
    rfl
  · rw [decide_eq_false h, if_neg (by decide), if_neg h]
set_option maxRecDepth 100000 in
set_option maxHeartbeats 2000000 in
theorem take_in (s : ByteArray) (g : Nat) (b0 : Bool) (w : World) (h0 : LtAt w g b0) :
    Calls Tryz.prog 104 #[.pointer (some ⟨g, 0, none⟩), .string s] w fun e w' => e = .returned (.tuple #[.int .u8 (kd s), .string (rs s)]) ∧ Below g w w' := by
  have hle := kd_le s
  have H0 := Lib.hid h0
  clear h0
  go_enter Tryz.func104, Tryz.ntmps104
  go_wp2_with fail
  go_loopw [6] (fun v wr => ∃ (k : Nat) (b : Bool), 1 ≤ k ∧ k ≤ 5 ∧ v = .int .u8 k ∧ (kd s = 0 ∨ k ≤ kd s) ∧ Hid (LtAt wr g b) ∧ Hid (Below g w wr)) (fun v _ => 5 - (intOf v).toNat)
  case atStart => exact ⟨1, b0, Nat.le_refl _, by omega, by go_num, by omega, H0, Lib.hid (Below.refl _ _)⟩
  case round =>
    obtain ⟨k, b, hk1, hk5, rfl, hkd, HL, HB⟩ := hrel
    by_cases hlt : k < 5
    · have HC := Lib.hid (cut_letter s k hk1 (by omega))
      have HO := Lib.hid (of_any g k b (by omega) wr (Hid.out HL))
      clear HL
      by_cases he : kd s = k
      · have HR := Lib.hid (show rs s = s.extract 1 s.size by unfold rs; rw [if_neg (by omega)])
        have HE := Lib.hid he
        rw [if_pos he, decide_eq_true he] at HC
        clear he hkd
        go_wp2_with (first
          | (go_at_call 80; refine HO.out.mono ?_; rintro e w1 ⟨rfl, h1, hb⟩)
          | (go_at_call 59; refine (HC.out _).mono ?_; rintro e w' ⟨rfl, rfl⟩))
        go_ret2
        exact ⟨by rw [HR.out, HE.out]; rfl, (Hid.out HB).trans hb⟩
      · rw [if_neg he, decide_eq_false he] at HC
        have hkd2 : kd s = 0 ∨ k + 1 ≤ kd s := by omega
        clear he hkd
        have u : IntKind.u8.wrap ((k : Int) + 1) = (k : Int) + 1 := u8_id (n := k + 1) (by omega)
        have HU := Lib.hid u
        clear u
        go_wp2_with fail
        refine HO.out.mono ?_
        rintro e w1 ⟨rfl, h1, hb⟩
        have HL2 := Lib.hid h1
        have HB2 := Lib.hid ((Hid.out HB).trans hb)
        clear h1 hb
        have u := HU.out
        go_wp2_with (go_at_call 59; refine (HC.out _).mono ?_; rintro e w' ⟨rfl, rfl⟩)
        refine ⟨⟨k + 1, true, by omega, by omega, by go_num, hkd2, HL2, HB2⟩, ?_⟩
        clear u
        simp [intOf]; omega
    · have hz : kd s = 0 := by omega
      have HZ := Lib.hid hz
      have HR := Lib.hid (show rs s = s by unfold rs; rw [if_pos hz])
      obtain rfl : k = 5 := by omega
      clear hz hkd
      go_wp2
      go_ret2
      exact ⟨by rw [HR.out, HZ.out]; rfl, Hid.out HB⟩
end Go.Proofs.YtngcogjjcidccaaGreat.Ino
