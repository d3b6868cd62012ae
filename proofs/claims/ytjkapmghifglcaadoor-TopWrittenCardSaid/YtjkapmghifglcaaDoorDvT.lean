/- A device as plain data, and what is done to it; how one lies in memory. No walk here. -/
import Derived.Test.YtjkapmghifglcaaDoorDvS
namespace Go.Proofs.YtjkapmghifglcaaDoor.Dv
set_option linter.unusedVariables false
open Go.ChangeShapes Go.WideShapes Go.ChangeAt Go.RowKit
open Ar Rg St
/-- a device, as plain data -/
structure De where
  N : Nat
  D : List Bk
  W : List Bk
  dn : Bool
  fu : Int
def De.zero : De := ⟨0, [], [], false, 0⟩
def De.rt (x : De) : Bool := rtD x.N x.D x.W
/-- what a block is read as -/
def De.has (x : De) (num : Nat) : ByteArray := (rdW x.W num).getD ((x.D.find? fun b => decide (b.n = num)).elim ByteArray.empty (·.d))
def chO (x : De) : Int := if x.rt then 0 else 7
def rdO (x : De) (num : Nat) : Int := if x.rt then (if x.dn then 17 else if x.N ≤ num then 1 else 0) else 7
def rdX (x : De) (num : Nat) : ByteArray := if rdO x num = 0 then x.has num else ByteArray.empty
def De.why (x : De) (num : Nat) (s : ByteArray) : Int := wrE x.N num s x.W.length x.dn
def wrO (x : De) (num : Nat) (s : ByteArray) : Int := if x.rt then (if x.why num s ≠ 0 then x.why num s else burnE x.fu) else 7
def wrX (x : De) (num : Nat) (s : ByteArray) : De := if x.rt then (if x.why num s ≠ 0 then x else ⟨x.N, x.D, x.W ++ [⟨num, cutB s⟩], burnD x.dn x.fu, burnF x.fu⟩) else De.zero
def flO (x : De) : Int := if x.rt then (if x.dn then 17 else burnE x.fu) else 7
def flX (x : De) : De := if x.rt then (if x.dn then x else if x.fu = 0 then ⟨x.N, x.D, x.W, true, x.fu⟩ else ⟨x.N, app x.D x.W, [], x.dn, burnF x.fu⟩) else De.zero
def crX (x : De) (kf : Nat → Bool) : De := if x.rt then ⟨x.N, app x.D (kpt kf x.W x.W.length), [], false, -1⟩ else De.zero
def spO (x : De) (num : Nat) (s : ByteArray) : Int := if x.rt then hadE x.N num s else 7
def spX (x : De) (num : Nat) (s : ByteArray) : De := if x.rt then (if hadE x.N num s ≠ 0 then x else ⟨x.N, don ⟨num, cutB s⟩ x.D, x.W, x.dn, x.fu⟩) else De.zero
/-- a device's value, in memory -/
def DevAt (w : World) (v : Value) (x : De) : Prop := ∃ A n c A' m c', v = devV x.N (.slice A n c) (.slice A' m c') x.dn x.fu ∧ SlB w A n c x.D ∧ SlB w A' m c' x.W ∧ n ≤ 281474976710656 ∧ m ≤ 281474976710656 ∧ -9223372036854775808 ≤ x.fu ∧ x.fu ≤ 9223372036854775807
theorem DevAt.below {w w' : World} {v : Value} {x : De} (h : DevAt w v x) (hb : Below w.heap.size w w') : DevAt w' v x := by
  obtain ⟨A, n, c, A', m, c', h1, h2, h3, h4⟩ := h
  exact ⟨A, n, c, A', m, c', h1, h2.below hb, h3.below hb, h4⟩
theorem DevAt.zero (w : World) : DevAt w (devV 0 (.slice none 0 0) (.slice none 0 0) false 0) De.zero :=
  ⟨none, 0, 0, none, 0, 0, rfl, ⟨rfl, Nat.le_refl _, Nat.zero_le _, 0, Nat.zero_le _, Ls.nil⟩, ⟨rfl, Nat.le_refl _, Nat.zero_le _, 0, Nat.zero_le _, Ls.nil⟩, by decide, by decide, by decide, by decide⟩
/-! ## what is right is not long -/
theorem up_len : ∀ (D : List Bk) (lo N : Nat), UpK key D → (∀ b ∈ D, lo ≤ b.n ∧ b.n < N) → D.length ≤ N - lo
  | [], _, _, _, _ => Nat.zero_le _
  | x :: D, lo, N, h, hb => by
    obtain ⟨h1, h2⟩ := UpK.cons.1 h
    have hx := hb x List.mem_cons_self
    have := up_len D (x.n + 1) N h2 fun b hm => ⟨by have q := h1 b hm; have q2 : x.n < b.n := of_decide_eq_true q; omega, (hb b (List.mem_cons_of_mem _ hm)).2⟩
    simp only [List.length_cons]
    omega
theorem rt_parts {x : De} (h : x.rt = true) : 16 ≤ x.N ∧ x.N ≤ 65536 ∧ UpK key x.D ∧ (∀ b ∈ x.D, okM x.N b = true) ∧ x.W.length ≤ 16384 ∧ ∀ b ∈ x.W, okB x.N b = true := by
  unfold De.rt rtD wts at h
  rw [Bool.and_eq_true, Bool.and_eq_true, Bool.and_eq_true, Bool.and_eq_true, med_iff, decide_eq_true_iff, decide_eq_true_iff, decide_eq_true_iff] at h
  obtain ⟨h1, h2, ⟨h3, h4⟩, h5, h6⟩ := h
  exact ⟨h1, h2, h3, h4, h5, by simpa using h6⟩
theorem rt_mk {x : De} (h1 : 16 ≤ x.N) (h2 : x.N ≤ 65536) (h3 : UpK key x.D) (h4 : ∀ b ∈ x.D, okM x.N b = true) (h5 : x.W.length ≤ 16384) (h6 : ∀ b ∈ x.W, okB x.N b = true) : x.rt = true := by
  unfold De.rt rtD wts
  rw [Bool.and_eq_true, Bool.and_eq_true, Bool.and_eq_true, Bool.and_eq_true, med_iff, decide_eq_true_iff, decide_eq_true_iff, decide_eq_true_iff]
  exact ⟨h1, h2, ⟨h3, h4⟩, h5, by simpa using h6⟩
theorem okM_iff {N : Nat} {b : Bk} : okM N b = true ↔ hb b = true ∧ okB N b = true := by unfold okM; rw [Bool.and_eq_true]
theorem okB_iff {N : Nat} {b : Bk} : okB N b = true ↔ b.n < N ∧ b.d.size ≤ 512 ∧ sfx b.d = false := by
  unfold okB; rw [Bool.and_eq_true, Bool.and_eq_true, decide_eq_true_iff, decide_eq_true_iff, Bool.not_eq_true']
theorem rt_len {x : De} (h : x.rt = true) : x.D.length ≤ 65536 ∧ x.W.length ≤ 16384 := by
  obtain ⟨h1, h2, h3, h4, h5, h6⟩ := rt_parts h
  have := up_len x.D 0 x.N h3 fun b hm => ⟨Nat.zero_le _, (okB_iff.1 (okM_iff.1 (h4 b hm)).2).1⟩
  exact ⟨by omega, h5⟩
/-! ## what is done keeps a device right -/
theorem cutL_len (l : List UInt8) : (cutL l).length ≤ l.length := by
  unfold cutL
  rw [List.length_reverse]
  have := (List.dropWhile_sublist (fun b : UInt8 => decide (b = 0)) (l := l.reverse)).length_le
  rwa [List.length_reverse] at this
theorem cutB_size (s : ByteArray) : (cutB s).size ≤ s.size := by
  have := cutL_len s.data.toList
  show (cutL s.data.toList).toArray.size ≤ s.data.size
  simpa using this
theorem cutL_last (l : List UInt8) : (cutL l).getLast? ≠ some 0 := by
  unfold cutL
  rw [List.getLast?_reverse]
  intro h
  have := List.head?_dropWhile_not (fun b : UInt8 => decide (b = 0)) l.reverse
  rw [h] at this
  simp at this
theorem cutB_sfx (s : ByteArray) : sfx (cutB s) = false := by
  unfold sfx
  rw [decide_eq_false_iff_not]
  exact cutL_last _
theorem cutB_same {s : ByteArray} (h : sfx s = false) : cutB s = s := by
  by_cases h0 : s.size = 0
  · exact cutB_empty h0
  · rw [sfx_at (by omega), decide_eq_false_iff_not] at h
    exact cutB_done (by omega) h
theorem ok_cut {N num : Nat} {s : ByteArray} (h1 : num < N) (h2 : s.size ≤ 512) : okB N ⟨num, cutB s⟩ = true := okB_iff.2 ⟨h1, Nat.le_trans (cutB_size s) h2, cutB_sfx s⟩
theorem had_zero {N num : Nat} {s : ByteArray} : hadE N num s = 0 ↔ num < N ∧ s.size ≤ 512 := by
  unfold hadE
  split
  · constructor
    · intro h; cases h
    · omega
  · split
    · constructor
      · intro h; cases h
      · omega
    · constructor
      · omega
      · intro _; rfl
theorem why_zero {x : De} {num : Nat} {s : ByteArray} : x.why num s = 0 ↔ x.dn = false ∧ num < x.N ∧ s.size ≤ 512 ∧ x.W.length ≠ 16384 := by
  unfold De.why wrE
  cases x.dn
  · rw [if_neg Bool.false_ne_true]
    by_cases h : hadE x.N num s = 0
    · rw [if_neg (by simpa using h)]
      have h2 := had_zero.1 h
      by_cases h3 : x.W.length = 16384
      · rw [if_pos h3]; simp [h3]
      · rw [if_neg h3]; simp [h3, h2]
    · rw [if_pos h]
      simp only [h, false_iff]
      intro ⟨_, h1, h2, _⟩
      exact h (had_zero.2 ⟨h1, h2⟩)
  · rw [if_pos rfl]; simp
theorem ok_app {N : Nat} {D C : List Bk} (hD : ∀ b ∈ D, okM N b = true) (hC : ∀ b ∈ C, okB N b = true) : ∀ b ∈ app D C, okM N b = true := by
  intro b hm
  rcases (mem_app D b C).1 hm with ⟨h, _⟩ | ⟨c, h1, h2, rfl⟩
  · exact hD b h
  · exact okM_iff.2 ⟨h2, hC _ h1.mem⟩
theorem kpt_mem {kf : Nat → Bool} {W : List Bk} {b : Bk} : ∀ i, b ∈ kpt kf W i → b ∈ W
  | 0, h => by cases h
  | i + 1, h => by
    rw [kpt, List.mem_append] at h
    rcases h with h | h
    · exact kpt_mem i h
    · split at h
      · exact List.mem_of_getElem? (by simpa using h)
      · cases h
theorem wr_rt {x : De} (num : Nat) (s : ByteArray) (h : x.rt = true) : (wrX x num s).rt = true := by
  unfold wrX
  rw [if_pos h]
  split
  · exact h
  · rename_i hw
    have hw : x.why num s = 0 := by simpa using hw
    obtain ⟨w1, w2, w3, w4⟩ := why_zero.1 hw
    obtain ⟨h1, h2, h3, h4, h5, h6⟩ := rt_parts h
    refine rt_mk h1 h2 h3 h4 (by simp only [List.length_append, List.length_singleton]; omega) fun b hm => ?_
    rcases List.mem_append.1 hm with hm | hm
    · exact h6 b hm
    · rw [List.mem_singleton.1 hm]; exact ok_cut w2 w3
theorem fl_rt {x : De} (h : x.rt = true) : (flX x).rt = true := by
  obtain ⟨h1, h2, h3, h4, h5, h6⟩ := rt_parts h
  unfold flX
  rw [if_pos h]
  split
  · exact h
  · split
    · exact rt_mk h1 h2 h3 h4 h5 h6
    · exact rt_mk h1 h2 (up_app _ h3) (ok_app h4 h6) (Nat.zero_le _) (fun b hm => by cases hm)
theorem cr_rt {x : De} (kf : Nat → Bool) (h : x.rt = true) : (crX x kf).rt = true := by
  obtain ⟨h1, h2, h3, h4, h5, h6⟩ := rt_parts h
  unfold crX
  rw [if_pos h]
  exact rt_mk h1 h2 (up_app _ h3) (ok_app h4 fun b hm => h6 b (kpt_mem _ hm)) (Nat.zero_le _) (fun b hm => by cases hm)
theorem app_one (D : List Bk) (b : Bk) : app D [b] = don b D := rfl
theorem sp_rt {x : De} (num : Nat) (s : ByteArray) (h : x.rt = true) : (spX x num s).rt = true := by
  obtain ⟨h1, h2, h3, h4, h5, h6⟩ := rt_parts h
  unfold spX
  rw [if_pos h]
  split
  · exact h
  · rename_i hw
    have hw : hadE x.N num s = 0 := by simpa using hw
    obtain ⟨w2, w3⟩ := had_zero.1 hw
    exact rt_mk h1 h2 (up_don _ h3) (by rw [← app_one]; exact ok_app h4 fun b hm => by rw [List.mem_singleton.1 hm]; exact ok_cut w2 w3) h5 h6
end Go.Proofs.YtjkapmghifglcaaDoor.Dv
