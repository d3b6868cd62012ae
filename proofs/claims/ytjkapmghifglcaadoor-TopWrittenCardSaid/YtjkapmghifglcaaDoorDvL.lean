/- The stable sort and CompactFunc at a list of blocks that a call made. -/
import Derived.Test.YtjkapmghifglcaaDoorDvK
import Derived.Test.YtjkapmghifglcaaDoorMgD
namespace Go.Proofs.YtjkapmghifglcaaDoor.Dv
set_option linter.unusedVariables false
open Go.ChangeShapes Go.WideShapes Go.ChangeAt Go.RowKit
open Ar Rg St
open BigFrame
/-- S lies in a block of the call's own, from B on; or it is nothing -/
def Lay (B : Nat) (w : World) (v : Value) (S : List Bk) : Prop := (v = .slice none 0 0 ∧ S = []) ∨ ∃ g c, v = .slice (some ⟨g, 0, none⟩) S.length c ∧ S.length ≤ c ∧ c ≤ maxLen ∧ B ≤ g ∧ g < w.heap.size ∧ Arr enc 2 w g S
theorem Own.lay {B : Nat} {w : World} {v : Value} {D : List Bk} (h : Own B w v D) : Lay B w v D := by
  rcases h.2 with ⟨rfl, h0⟩ | ⟨g, cap, cur, rfl, hb, hg, hn, hc, hcs, ht⟩
  · exact .inl ⟨rfl, List.eq_nil_of_length_eq_zero h0⟩
  · refine .inr ⟨g, cap, rfl, hn, hc, hb, ?_, fun i x hx => ⟨fun j u hu => ?_, fun j hj => frozen_of_row w g _ cur _ hg⟩⟩
    · rcases Nat.lt_or_ge g w.heap.size with hlt | hge
      · exact hlt
      · rw [Array.getElem?_eq_none hge] at hg; cases hg
    · have := World.ownsRow.cells h (g := g) rfl _ _ (flat_get Sb.enc_len hx hu)
      rw [Ar.add_plain, Nat.zero_add] at this
      exact this
set_option maxRecDepth 100000 in
set_option maxHeartbeats 1000000 in
theorem stable_none (w : World) :
    Calls Tryd.prog 85 #[.slice none 0 0, .int .i64 0, Sb.CMP] w fun e w' => e = .returned (.tuple #[]) ∧ w = w' := by
  unfold Sb.CMP
  go_enter Tryd.func85, Tryd.ntmps85
  go_wp2_with fail
  refine wp_loop_rounds 1 ?_
  rw [rounds_succ]
  go_wp2_with fail
  go_at_call 100
  refine (Sb.insertion_none 0 _ _ (by omega) _).mono ?_
  rintro e w1 ⟨rfl, rfl⟩
  go_wp2_with fail
  refine wp_loop_rounds 1 ?_
  rw [rounds_succ]
  go_wp2
  exact ⟨rfl, _, results_none rfl _ _ _, rfl, rfl⟩
theorem sort_none (w : World) :
    Calls Tryd.prog 69 #[.slice none 0 0, Sb.CMP] w fun e w' => e = .returned (.tuple #[]) ∧ w = w' := by
  have HC := Lib.hid (stable_none w)
  unfold Sb.CMP at *
  go_enter Tryd.func69, Tryd.ntmps69
  go_wp2_with fail
  go_at_call 85
  refine HC.out.mono ?_
  rintro e w1 ⟨rfl, rfl⟩
  go_wp2
  exact ⟨rfl, _, results_none rfl _ _ _, rfl, rfl⟩
theorem sortB_any (C : List Bk) (B : Nat) (w : World) (v : Value) (hO : Lay B w v C) (hlen : C.length ≤ 1099511627776) :
    Calls Tryd.prog 69 #[v, Sb.CMP] w fun e w' => e = .returned (.tuple #[]) ∧ w.grownBy w' v.ownBlock ∧ ∃ S, S.length = C.length ∧ Srt key lt S ∧ Sm key C S ∧ Lay B w' v S := by
  rcases hO with ⟨rfl, rfl⟩ | ⟨g, c, rfl, hc, hcm, hg, hlt, hA⟩
  · refine (sort_none w).mono fun e w' h => ?_
    obtain ⟨h1, rfl⟩ := h
    exact ⟨h1, grown_refl _ _, [], rfl, Srt.nil, Sm.refl _, .inl ⟨rfl, rfl⟩⟩
  · refine (Sb.sort_any C g c C.length rfl hc (by omega) w hA).mono fun e w' h => ?_
    obtain ⟨h1, S, h2, h3, h4, h5, h6⟩ := h
    exact ⟨h1, h6, S, h3, h4, h5, .inr ⟨g, c, by rw [h3], by omega, hcm, hg, Nat.lt_of_lt_of_le hlt h6.size, h2⟩⟩
set_option maxRecDepth 100000 in
set_option maxHeartbeats 1000000 in
theorem compact_none (w : World) :
    Calls Tryd.prog 70 #[.slice none 0 0, SAME] w fun e w' => e = .returned (.slice none 0 0) ∧ w = w' := by
  unfold SAME
  go_enter Tryd.func70, Tryd.ntmps70
  go_wp2
  go_ret
  exact ⟨rfl, rfl⟩
theorem compactB_any (S : List Bk) (B : Nat) (w : World) (v : Value) (hO : Lay B w v S) (hlen : S.length ≤ 1099511627776) :
    Calls Tryd.prog 70 #[v, SAME] w fun e w' => (∃ A n c, e = .returned (.slice A n c) ∧ SlB w' A n c (cm S S.length)) ∧ w.grownBy w' v.ownBlock := by
  rcases hO with ⟨rfl, rfl⟩ | ⟨g, c, rfl, hc, hcm, hg, hlt, hA⟩
  · refine (compact_none w).mono fun e w' h => ?_
    obtain ⟨h1, rfl⟩ := h
    exact ⟨⟨none, 0, 0, h1, rfl, Nat.le_refl _, Nat.zero_le _, 0, Nat.zero_le _, Ls.nil⟩, grown_refl _ _⟩
  · refine (compact_any S g c S.length rfl hc (by omega) w hA).mono fun e w' h => ?_
    obtain ⟨k, h1, h2, h3, h4, h5⟩ := h
    exact ⟨⟨some ⟨g, 0, none⟩, k, c, h1, h2, h3, hcm, g + 1, Nat.lt_of_lt_of_le hlt h5.size, h4⟩, h5⟩
end Go.Proofs.YtjkapmghifglcaaDoor.Dv
