/- Contracts of strings.HasSuffix and strings.TrimRight at the zero byte. -/
import Derived.Test.YtjkmfonngbendaaGreatDoorRows
import Derived.Test.YtjkmfonngbendaaGreatDoorArr
import Derived.Test.YtjkmfonngbendaaGreatDoorReg
import Derived.Lib.Strings
import Derived.Lib.Bytealg
import Derived.LoopTactic
import Derived.OwnWalk
import Derived.BigQuiet
import Derived.WalkLawsBesides
import Derived.WalkSpells
import Derived.Lib.Hide
import Derived.Test.YtjkmfonngbendaaGreatDoorLs
namespace Go.Proofs.YtjkmfonngbendaaGreatDoor.Tm
set_option linter.unusedVariables false
open Go.ChangeShapes Go.WideShapes Go.ChangeAt Go.RowKit
open Ar Rg St
open BigFrame
theorem str_eq (a b : ByteArray) : (a.toList == b.toList) = decide (a.data.toList = b.data.toList) := by
  rw [ByteArray.toList_eq, ByteArray.toList_eq, Bool.eq_iff_iff]
  simp
def Z0 : ByteArray := { data := #[0] }
/-- a text ends in a zero byte -/
def sfx (s : ByteArray) : Bool := decide (s.data.toList.getLast? = some 0)
theorem sfx_empty {s : ByteArray} (h : s.size = 0) : sfx s = false := by
  have : s.data.toList = [] := by
    rw [← List.length_eq_zero_iff]; simpa using h
  unfold sfx; rw [this]; rfl
theorem last_at {s : ByteArray} (h : 0 < s.size) : s.data.toList.getLast? = some (s[s.size - 1]'(by omega)) := by
  rw [List.getLast?_eq_getElem?, List.getElem?_eq_getElem (by simp; omega)]
  simp
  rfl
theorem sfx_at {s : ByteArray} (h : 0 < s.size) : sfx s = decide (s[s.size - 1]'(by omega) = 0) := by
  unfold sfx
  rw [last_at h]
  exact decide_eq_decide.2 (by simp)
theorem sfx_cut {s : ByteArray} (h : 0 < s.size) : ((s.extract (s.size - 1) s.size).toList == [0]) = sfx s := by
  have e0 : ((s.extract (s.size - 1) s.size).toList == [0]) = decide ((s.extract (s.size - 1) s.size).data.toList = [0]) := by
    rw [ByteArray.toList_eq, Bool.eq_iff_iff]
    simp
  rw [e0, sfx_at h]
  refine decide_eq_decide.2 ?_
  have e : (s.extract (s.size - 1) s.size).data.toList = [s[s.size - 1]'(by omega)] := by
    rw [ByteArray.data_extract]
    have hl : s.data.size = s.size := rfl
    rw [Array.toList_extract, List.extract_eq_take_drop]
    have hd : s.data.toList.drop (s.size - 1) = [s[s.size - 1]'(by omega)] := by
      rw [List.drop_eq_getElem_cons (by simp; omega), List.drop_eq_nil_of_le (by simp; omega)]
      simp
      rfl
    rw [hd]
    rw [show s.size - (s.size - 1) = 1 by omega]
    rfl
  rw [e]
  simp
theorem liteSuffix_any (s : ByteArray) (hs : s.size ≤ 9223372036854775807) (w : World) :
    Calls Tryz.prog 222 #[.string s, .string Z0] w fun e w' => e = .returned (.bool (sfx s)) ∧ w = w' := by
  by_cases h : 0 < s.size
  · have h1 : decide ((1 : Int) ≤ (s.size : Int)) = true := by rw [decide_eq_true_iff]; omega
    obtain ⟨q, hq⟩ : ∃ q, sfx s = q := ⟨_, rfl⟩
    have he := sfx_cut h
    rw [hq] at he ⊢
    have h2 : (0 : Int) ≤ (s.size : Int) - 1 := by omega
    have h3 : ((s.size : Int) - 1).toNat = s.size - 1 := by omega
    unfold Z0 at *
    clear hq
    go_enter Tryz.func222, Tryz.ntmps222
    go_wp2
    go_ret
    exact ⟨rfl, rfl⟩
  · have h1 : decide ((1 : Int) ≤ (s.size : Int)) = false := by rw [decide_eq_false_iff_not]; omega
    rw [sfx_empty (by omega)]
    unfold Z0
    go_enter Tryz.func222, Tryz.ntmps222
    go_wp2
    go_ret
    exact ⟨rfl, rfl⟩
theorem hasSuffix_any (s : ByteArray) (hs : s.size ≤ 9223372036854775807) (w : World) :
    Calls Tryz.prog 202 #[.string s, .string { data := #[0] }] w fun e w' => e = .returned (.bool (sfx s)) ∧ w = w' := by
  have HC := Lib.hid (liteSuffix_any s hs w)
  unfold Z0 at HC
  go_enter Tryz.func202, Tryz.ntmps202
  go_wp2_with (go_at_call 222; refine HC.out.mono ?_; rintro e w' ⟨rfl, rfl⟩)
  go_ret
  exact ⟨rfl, rfl⟩
/-! ## cut -/
def cutL (l : List UInt8) : List UInt8 := (l.reverse.dropWhile fun b => decide (b = 0)).reverse
def cutB (s : ByteArray) : ByteArray := ⟨(cutL s.data.toList).toArray⟩
theorem cutL_snoc (l : List UInt8) (b : UInt8) : cutL (l ++ [b]) = if b = 0 then cutL l else l ++ [b] := by
  unfold cutL
  rw [List.reverse_append, List.reverse_singleton, List.singleton_append]
  by_cases h : b = 0
  · rw [if_pos h, List.dropWhile_cons_of_pos (by simpa using h)]
  · rw [if_neg h, List.dropWhile_cons_of_neg (by simpa using h), List.reverse_cons, List.reverse_reverse]
theorem split_last {s : ByteArray} (h : 0 < s.size) : s.data.toList = (s.extract 0 (s.size - 1)).data.toList ++ [s[s.size - 1]'(by omega)] := by
  have e : (s.extract 0 (s.size - 1)).data.toList = s.data.toList.take (s.size - 1) := by
    rw [ByteArray.data_extract, Array.toList_extract, List.extract_eq_take_drop]
    simp
  have hd : s.data.toList.drop (s.size - 1) = [s[s.size - 1]'(by omega)] := by
    rw [List.drop_eq_getElem_cons (by simp; omega), List.drop_eq_nil_of_le (by simp; omega)]
    simp
    rfl
  rw [e, ← hd, List.take_append_drop]
theorem cutB_zero {s : ByteArray} (h : 0 < s.size) (hz : s[s.size - 1]'(by omega) = 0) : cutB (s.extract 0 (s.size - 1)) = cutB s := by
  unfold cutB
  rw [split_last h, cutL_snoc, if_pos hz]
theorem cutB_done {s : ByteArray} (h : 0 < s.size) (hz : s[s.size - 1]'(by omega) ≠ 0) : cutB s = s := by
  unfold cutB
  refine ByteArray.ext ?_
  show (cutL s.data.toList).toArray = s.data
  rw [split_last h, cutL_snoc, if_neg hz, ← split_last h]
theorem cutB_empty {s : ByteArray} (h : s.size = 0) : cutB s = s := by
  have hl : s.data.toList = [] := by rw [← List.length_eq_zero_iff]; simpa using h
  unfold cutB
  refine ByteArray.ext ?_
  show (cutL s.data.toList).toArray = s.data
  rw [hl]
  have : s.data = #[] := by rw [← Array.toList_inj, hl]
  rw [this]; rfl
set_option maxRecDepth 100000 in
set_option maxHeartbeats 600000 in
theorem trimByte_any (s : ByteArray) (hs : s.size ≤ 9223372036854775807) (w : World) :
    Calls Tryz.prog 166 #[.string s, .int .u8 0] w fun e w' => e = .returned (.string (cutB s)) ∧ w = w' := by
  go_enter Tryz.func166, Tryz.ntmps166
  go_wp2_with fail
  go_loop [0] (fun v => ∃ t : ByteArray, t.size ≤ 9223372036854775807 ∧ v = .string t ∧ Hid (cutB t = cutB s)) (fun v => match v with | .string t => t.size | _ => 0)
  case atStart => exact ⟨s, hs, rfl, rfl⟩
  case round =>
    obtain ⟨t, ht, rfl, hc⟩ := hrel
    by_cases h0 : 0 < t.size
    · have q1 : decide ((0 : Int) < (t.size : Int)) = true := by rw [decide_eq_true_iff]; omega
      have h2 : (0 : Int) ≤ (t.size : Int) - 1 := by omega
      have h3 : ((t.size : Int) - 1).toNat = t.size - 1 := by omega
      have h4 : t.size - 1 < t.size := by omega
      by_cases hz : t[t.size - 1] = 0
      · have HC := Lib.hid ((cutB_zero h0 hz).trans (Hid.out hc))
        have hb : ((t[t.size - 1].toNat : Int) == 0) = true := by rw [hz]; rfl
        have h5 : (t.extract 0 (t.size - 1)).size = t.size - 1 := by simp
        have H5 := Lib.hid h5
        clear hc hz h5
        go_wp2
        exact ⟨⟨_, by rw [H5.out]; omega, rfl, HC.out⟩, by show (t.extract 0 (t.size - 1)).size < t.size; rw [H5.out]; omega⟩
      · have HC := Lib.hid ((cutB_done h0 hz).symm.trans (Hid.out hc))
        have hb : ((t[t.size - 1].toNat : Int) == 0) = false := by
          rw [beq_eq_false_iff_ne]
          intro e
          have e2 : t[t.size - 1].toNat = 0 := by omega
          exact hz (UInt8.toNat.inj e2)
        clear hc hz
        go_wp2
        go_ret
        exact ⟨by rw [← HC.out]; rfl, rfl⟩
    · have q1 : decide ((0 : Int) < (t.size : Int)) = false := by rw [decide_eq_false_iff_not]; omega
      have HC := Lib.hid ((cutB_empty (show t.size = 0 by omega)).symm.trans (Hid.out hc))
      clear hc
      go_wp2
      go_ret
      exact ⟨by rw [← HC.out]; rfl, rfl⟩
set_option maxRecDepth 100000 in
set_option maxHeartbeats 600000 in
theorem trimRight_any (s : ByteArray) (hs : s.size ≤ 9223372036854775807) (w : World) :
    Calls Tryz.prog 124 #[.string s, .string { data := #[0] }] w fun e w' => e = .returned (.string (cutB s)) ∧ w = w' := by
  have HC := Lib.hid (trimByte_any s hs w)
  by_cases h0 : s.size = 0
  · have hk : s = { data := #[] } := by
      obtain ⟨d⟩ := s
      congr
      exact Array.eq_empty_of_size_eq_zero h0
    have HE := Lib.hid (cutB_empty h0)
    clear h0
    rw [HE.out]
    subst hk
    go_enter Tryz.func124, Tryz.ntmps124
    go_wp2
    go_ret
    exact ⟨rfl, rfl⟩
  · have hk : s.toList.isEmpty = false := by
      rw [Bool.eq_false_iff]
      intro h
      have h2 : s.toList = [] := List.isEmpty_iff.1 h
      rw [ByteArray.toList_eq] at h2
      have h3 : s.data.size = 0 := by rw [← Array.length_toList, h2]; rfl
      exact h0 h3
    clear h0
    go_enter Tryz.func124, Tryz.ntmps124
    go_wp2_with (go_at_call 166; refine HC.out.mono ?_; rintro e w' ⟨rfl, rfl⟩)
    go_ret
    exact ⟨rfl, rfl⟩
end Go.Proofs.YtjkmfonngbendaaGreatDoor.Tm
