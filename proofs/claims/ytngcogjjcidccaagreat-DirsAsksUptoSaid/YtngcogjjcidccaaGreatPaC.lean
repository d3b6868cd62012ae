/- Contracts of the two ways in which a path is taken apart. -/
import Derived.Test.YtngcogjjcidccaaGreatPaB
namespace Go.Proofs.YtngcogjjcidccaaGreat.Ph
set_option linter.unusedVariables false
open Go.ChangeShapes Go.WideShapes Go.ChangeAt Go.RowKit
open BigFrame
open Ar
/-- a path's names, as strings, and which error -/
def spB (p : ByteArray) : List ByteArray := (spN p.data.toList).map bsL
def spX (p : ByteArray) : Int := spE p.data.toList
theorem map_all (l : List (List UInt8)) : (l.map bsL).all nb = l.all nm := by
  induction l with
  | nil => rfl
  | cons x r ih => rw [List.map_cons, List.all_cons, List.all_cons, ih]; rfl
theorem sz_len (p : ByteArray) : p.data.toList.length = p.size := by rw [Array.length_toList]; rfl
theorem sp_long {p : ByteArray} (h : 256 < p.size) : spX p = 2 ∧ spB p = [] := by
  have h1 : 256 < p.data.toList.length := by rw [sz_len]; exact h
  have e : spX p = 2 := by unfold spX spE; rw [if_pos h1]
  refine ⟨e, ?_⟩
  unfold spB
  rw [sp_err (by unfold spX at e; rw [e]; decide)]; rfl
theorem sp_root {p : ByteArray} (h : p.toList = [47]) : spX p = 0 ∧ spB p = [] := by
  rw [tl] at h
  unfold spX spB
  rw [h]
  exact ⟨rfl, rfl⟩
theorem sp_no {p : ByteArray} (h1 : p.size ≤ 256) (h2 : ¬ p.toList = [47]) (h3 : p.data.toList.head? ≠ some 47) : spX p = 10 ∧ spB p = [] := by
  rw [tl] at h2
  have e : spX p = 10 := by unfold spX spE; rw [if_neg (by rw [sz_len]; omega), if_neg h2, if_pos (.inl h3)]
  refine ⟨e, ?_⟩
  unfold spB
  rw [sp_err (by unfold spX at e; rw [e]; decide)]; rfl
theorem behind_cut {p : ByteArray} : cutB (p.extract 1 p.size) = (cut p.data.toList.tail).map bsL := by
  unfold cutB
  rw [extract_list, List.take_of_length_le (by rw [List.length_drop, Array.length_toList]; exact Nat.le_refl _), List.drop_one]
theorem sp_bad {p : ByteArray} (h1 : p.size ≤ 256) (h2 : ¬ p.toList = [47]) (h4 : (cutB (p.extract 1 p.size)).all nb = false) : spX p = 10 ∧ spB p = [] := by
  rw [tl] at h2
  rw [behind_cut, map_all] at h4
  have e : spX p = 10 := by unfold spX spE; rw [if_neg (by rw [sz_len]; omega), if_neg h2, if_pos (.inr h4)]
  refine ⟨e, ?_⟩
  unfold spB
  rw [sp_err (by unfold spX at e; rw [e]; decide)]; rfl
theorem sp_yes {p : ByteArray} (h1 : p.size ≤ 256) (h2 : ¬ p.toList = [47]) (h3 : p.data.toList.head? = some 47) (h4 : (cutB (p.extract 1 p.size)).all nb = true) : spX p = 0 ∧ spB p = cutB (p.extract 1 p.size) := by
  rw [tl] at h2
  rw [behind_cut, map_all] at h4
  have hl : ¬ 256 < p.data.toList.length := by rw [sz_len]; omega
  have hno : ¬ (p.data.toList.head? ≠ some 47 ∨ (cut p.data.toList.tail).all nm = false) := by
    rintro (h | h)
    · exact h h3
    · rw [h4] at h; cases h
  unfold spX spB spE spN
  rw [if_neg hl, if_neg h2, if_neg hno, if_neg (by rintro (h | h | h); exact hl h; exact h2 h; exact hno h), behind_cut]
  exact ⟨rfl, rfl⟩
theorem behind_size (p : ByteArray) : (behind p).size ≤ p.size := by
  unfold behind
  split
  · rw [ByteArray.size_extract]; omega
  · exact Nat.le_refl _
def SplitPost (w : World) (p : ByteArray) (e : Ending) (w' : World) : Prop := ∃ v, e = .returned (.tuple #[v, .int .i64 (spX p)]) ∧ MkS w w' v (spB p)
theorem SplitPost.no {w w' : World} {p : ByteArray} {x : Int} (h : spX p = x ∧ spB p = []) (hb : Below w.heap.size w w') : SplitPost w p (.returned (.tuple #[.slice none 0 0, .int .i64 x])) w' := by
  refine ⟨.slice none 0 0, by rw [h.1], ?_⟩
  rw [h.2]
  exact Mk.nil hb
set_option maxHeartbeats 1000000 in
theorem split_any (p : ByteArray) (hp : p.size ≤ maxLen) (w : World) : Calls Tryz.prog 37 #[.string p] w (SplitPost w p) := by
  unfold maxLen at hp
  by_cases h1 : p.size ≤ 256
  · have d1 : decide (256 < (p.size : Int)) = false := by simp; omega
    by_cases h2 : p.toList = [47]
    · have HS := Lib.hid (sp_root h2)
      have e2 : (p.toList == [47]) = true := by rw [h2]; rfl
      go_enter Tryz.func37, Tryz.ntmps37
      go_wp2
      go_ret2
      exact SplitPost.no HS.out (Below.refl _ _)
    · have e2 : (p.toList == [47]) = false := by simpa using h2
      cases h3 : slashed p
      · have HS := Lib.hid (sp_no h1 h2 (by intro h; unfold slashed at h3; rw [h] at h3; simp at h3))
        have HC := Lib.hid (cutPrefix_any p w)
        rw [h3] at HC
        have hbz := behind_size p
        clear h3 h2
        go_enter Tryz.func37, Tryz.ntmps37
        go_wp2_with (first
          | (go_at_call 59; refine HC.out.mono ?_; rintro e w' ⟨rfl, rfl⟩)
          | (go_at_call 60; refine (parts_any _ (by omega) _).mono ?_; rintro e w2 ⟨v, rfl, hM⟩; have HM := Lib.hid hM; clear hM))
        go_ret2
        exact SplitPost.no HS.out HM.out.2
      · have hb : behind p = p.extract 1 p.size := by unfold behind; rw [if_pos h3]
        have hh : p.data.toList.head? = some 47 := by unfold slashed at h3; rwa [beq_iff_eq] at h3
        have HC := Lib.hid (cutPrefix_any p w)
        rw [h3, hb] at HC
        have hbz : (p.extract 1 p.size).size ≤ 256 := by rw [ByteArray.size_extract]; omega
        have HY := Lib.hid (sp_yes h1 h2 hh)
        have HB := Lib.hid (sp_bad h1 h2)
        clear h3 h2 hb hh
        go_enter Tryz.func37, Tryz.ntmps37
        go_wp2_with (go_at_call 59; refine HC.out.mono ?_; rintro e w' ⟨rfl, rfl⟩)
        refine (parts_any _ (by omega) _).mono ?_
        rintro e w2 ⟨v, rfl, hM⟩
        obtain ⟨A, c, rfl, hc1, hc2, hL⟩ := hM.ls en1_len
        have HM := Lib.hid hM
        have HL := Lib.hid hL
        obtain ⟨m, hm⟩ : ∃ m, m = (cutB (p.extract 1 p.size)).length := ⟨_, rfl⟩
        rw [← hm] at hc1
        unfold maxLen at hc2
        have HA := Lib.hid (allNames_any (cutB (p.extract 1 p.size)) A m c w2.heap.size hm (by omega) w2 (Nat.le_refl _) hL)
        rw [← hm] at HM
        rw [← hm]
        clear hM hL HL hm
        cases hq : (cutB (p.extract 1 p.size)).all nb
        · rw [hq] at HA
          have HS := Lib.hid (HB.out hq)
          clear hq HB HY
          go_wp2_with (go_at_call 61; refine HA.out.mono ?_; rintro e w' ⟨rfl, rfl⟩)
          go_ret2
          exact SplitPost.no HS.out HM.out.2
        · rw [hq] at HA
          have HS := Lib.hid (HY.out hq)
          clear hq HB HY
          go_wp2_with (go_at_call 61; refine HA.out.mono ?_; rintro e w' ⟨rfl, rfl⟩)
          go_ret2
          refine ⟨_, by rw [HS.out.1]; rfl, ?_⟩
          rw [HS.out.2]
          exact HM.out
  · have d1 : decide (256 < (p.size : Int)) = true := by simp; omega
    have HS := Lib.hid (sp_long (p := p) (by omega))
    go_enter Tryz.func37, Tryz.ntmps37
    go_wp2
    go_ret2
    exact SplitPost.no HS.out (Below.refl _ _)
end Go.Proofs.YtngcogjjcidccaaGreat.Ph
