/- What is read of a device behind what was done with it. Plain mathematics. -/
import Derived.Test.YtjkapmghifglcaaDoorDwB
namespace Go.Proofs.YtjkapmghifglcaaDoor.Dv
set_option linter.unusedVariables false
open Ar Rg St
def val (D : List Bk) (num : Nat) : ByteArray := (D.find? fun b => decide (b.n = num)).elim ByteArray.empty (·.d)
theorem has_val (x : De) (num : Nat) : x.has num = (rdW x.W num).getD (val x.D num) := rfl
theorem val_mem {D : List Bk} {num : Nat} {b : Bk} (h : UpK key D) (hb : b ∈ D) (hn : b.n = num) : val D num = b.d := by
  unfold val
  cases hf : D.find? fun b => decide (b.n = num) with
  | none =>
    have := List.find?_eq_none.1 hf b hb
    simp [hn] at this
  | some y =>
    have h1 := List.find?_some hf
    have h2 := List.mem_of_find?_eq_some hf
    have h3 : y.n = num := of_decide_eq_true h1
    have : y = b := up_inj h h2 hb (h3.trans hn.symm)
    rw [this]; rfl
theorem val_none {D : List Bk} {num : Nat} (h : ∀ b ∈ D, b.n ≠ num) : val D num = ByteArray.empty := by
  unfold val
  cases hf : D.find? fun b => decide (b.n = num) with
  | none => rfl
  | some y =>
    have h1 := List.find?_some hf
    have h2 := List.mem_of_find?_eq_some hf
    have h3 : y.n = num := of_decide_eq_true h1
    exact absurd h3 (h y h2)
theorem empty_of {b : Bk} (h : hb b = false) : b.d = ByteArray.empty := by
  unfold hb at h
  have h1 : b.d.toList.isEmpty = true := by simpa using h
  have h2 : b.d.toList = [] := List.isEmpty_iff.1 h1
  rw [ByteArray.toList_eq] at h2
  exact ByteArray.ext (Array.toList_inj.1 h2)
theorem val_don {E : List Bk} (c : Bk) (num : Nat) (h : UpK key E) : val (don c E) num = if c.n = num then c.d else val E num := by
  have hu := up_don c h
  by_cases hc : c.n = num
  · rw [if_pos hc]
    cases hh : hb c
    · rw [empty_of hh]
      refine val_none fun b hb => ?_
      rcases (mem_don c b E).1 hb with ⟨_, h2⟩ | ⟨h1, _⟩
      · intro e; exact h2 (e.trans hc.symm)
      · rw [hh] at h1; cases h1
    · exact val_mem hu ((mem_don c c E).2 (.inr ⟨hh, rfl⟩)) hc
  · rw [if_neg hc]
    by_cases hex : ∃ b ∈ E, b.n = num
    · obtain ⟨b, h1, h2⟩ := hex
      rw [val_mem h h1 h2]
      exact val_mem hu ((mem_don c b E).2 (.inl ⟨h1, fun e => hc (e.symm.trans h2)⟩)) h2
    · have hno : ∀ b ∈ E, b.n ≠ num := fun b hb e => hex ⟨b, hb, e⟩
      rw [val_none hno]
      refine val_none fun b hb => ?_
      rcases (mem_don c b E).1 hb with ⟨h1, _⟩ | ⟨_, rfl⟩
      · exact hno b h1
      · exact hc
theorem rdW_nil (num : Nat) : rdW [] num = none := rfl
theorem rdW_snoc (W : List Bk) (c : Bk) (num : Nat) : rdW (W ++ [c]) num = if c.n = num then some c.d else rdW W num := by
  unfold rdW
  rw [List.reverse_append, List.reverse_singleton, List.singleton_append, List.find?_cons]
  by_cases h : c.n = num
  · rw [if_pos h, decide_eq_true h]; rfl
  · rw [if_neg h, decide_eq_false h]
theorem val_app {D : List Bk} (num : Nat) (h : UpK key D) (W : List Bk) : val (app D W) num = (rdW W num).getD (val D num) := by
  have key : ∀ R : List Bk, val (app D R.reverse) num = (rdW R.reverse num).getD (val D num) := by
    intro R
    induction R with
    | nil => rfl
    | cons c R ih =>
      rw [List.reverse_cons, app_snoc, rdW_snoc, val_don c num (up_app _ h), ih]
      split <;> rfl
  have := key W.reverse
  rwa [List.reverse_reverse] at this
theorem rdW_none {W : List Bk} {num : Nat} (h : ∀ b ∈ W, b.n ≠ num) : rdW W num = none := by
  unfold rdW
  rw [Option.map_eq_none_iff, List.find?_eq_none]
  intro b hb
  simp only [decide_eq_true_eq]
  exact h b (List.mem_reverse.1 hb)
theorem rdW_some {W : List Bk} {num : Nat} {s : ByteArray} (h : rdW W num = some s) : ∃ b ∈ W, b.n = num ∧ b.d = s := by
  unfold rdW at h
  obtain ⟨b, h1, h2⟩ := Option.map_eq_some_iff.1 h
  have h3 := List.find?_some h1
  exact ⟨b, List.mem_reverse.1 (List.mem_of_find?_eq_some h1), of_decide_eq_true h3, h2⟩
/-! ## errors -/
theorem chO_zero {x : De} : chO x = 0 ↔ x.rt = true := by
  unfold chO
  split <;> simp_all
theorem flO_zero {x : De} (h : flO x = 0) : x.rt = true ∧ x.dn = false ∧ x.fu ≠ 0 := by
  unfold flO burnE at h
  split at h
  · split at h
    · cases h
    · split at h
      · cases h
      · rename_i h1 h2 h3
        exact ⟨h1, by simpa using h2, h3⟩
  · cases h
theorem wrO_zero {x : De} {num : Nat} {s : ByteArray} (h : wrO x num s = 0) : x.rt = true ∧ x.why num s = 0 ∧ x.fu ≠ 0 := by
  unfold wrO burnE at h
  split at h
  · split at h
    · rename_i h1 h2; exact absurd h h2
    · split at h
      · cases h
      · rename_i h1 h2 h3
        exact ⟨h1, by simpa using h2, h3⟩
  · cases h
theorem spO_zero {x : De} {num : Nat} {s : ByteArray} (h : spO x num s = 0) : x.rt = true ∧ hadE x.N num s = 0 := by
  unfold spO at h
  split at h
  · rename_i h1; exact ⟨h1, h⟩
  · cases h
theorem rdO_up {x : De} {num : Nat} (h : x.rt = true) (hd : x.dn = false) : rdO x num = if x.N ≤ num then 1 else 0 := by
  unfold rdO; rw [h, hd]; rfl
theorem rdX_at {x : De} {num : Nat} (h : rdO x num = 0) : rdX x num = x.has num := by unfold rdX; rw [if_pos h]
theorem rdX_off {x : De} {num : Nat} (h : rdO x num ≠ 0) : rdX x num = ByteArray.empty := by unfold rdX; rw [if_neg h]
theorem rdX_eq {x y : De} {num : Nat} (h : rdO x num = rdO y num) (hh : x.has num = y.has num) : rdX x num = rdX y num := by
  unfold rdX; rw [h, hh]
/-! ## a flush -/
theorem fl_at {x : De} (h : flO x = 0) : flX x = ⟨x.N, app x.D x.W, [], false, burnF x.fu⟩ := by
  obtain ⟨h1, h2, h3⟩ := flO_zero h
  unfold flX
  rw [if_pos h1, h2, if_neg Bool.false_ne_true, if_neg h3]
theorem fl_has {x : De} (h : flO x = 0) (num : Nat) : (flX x).has num = x.has num := by
  obtain ⟨h1, h2, h3⟩ := flO_zero h
  rw [fl_at h, has_val, has_val]
  exact val_app num (rt_parts h1).2.2.1 x.W
theorem fl_rdO {x : De} (h : flO x = 0) (num : Nat) : rdO (flX x) num = rdO x num := by
  obtain ⟨h1, h2, h3⟩ := flO_zero h
  rw [rdO_up (fl_rt h1) (by rw [fl_at h]), rdO_up h1 h2, fl_at h]
theorem fl_rdX {x : De} (h : flO x = 0) (num : Nat) : rdX (flX x) num = rdX x num := rdX_eq (fl_rdO h num) (fl_has h num)
theorem fl_again {x : De} (h : flO x = 0) (hf : x.fu = -1) : flO (flX x) = 0 ∧ flX (flX x) = flX x := by
  obtain ⟨h1, h2, h3⟩ := flO_zero h
  have hr := fl_rt h1
  have e := fl_at h
  rw [hf, show burnF (-1) = -1 from rfl] at e
  have h0 : flO (flX x) = 0 := by
    unfold flO
    rw [hr, e]
    rfl
  refine ⟨h0, ?_⟩
  rw [fl_at h0, e]
  rfl
/-! ## a write -/
theorem wr_at {x : De} {num : Nat} {s : ByteArray} (h : wrO x num s = 0) : wrX x num s = ⟨x.N, x.D, x.W ++ [⟨num, cutB s⟩], false, burnF x.fu⟩ ∧ x.rt = true ∧ x.dn = false ∧ num < x.N := by
  obtain ⟨h1, h2, h3⟩ := wrO_zero h
  obtain ⟨w1, w2, w3, w4⟩ := why_zero.1 h2
  refine ⟨?_, h1, w1, w2⟩
  unfold wrX
  rw [if_pos h1, if_neg (by simpa using h2), show burnD x.dn x.fu = false by unfold burnD; rw [if_neg h3]; exact w1]
theorem wr_rdO {x : De} {num : Nat} {s : ByteArray} (h : wrO x num s = 0) (o : Nat) : rdO (wrX x num s) o = rdO x o := by
  obtain ⟨e, h1, h2, h3⟩ := wr_at h
  rw [rdO_up (wr_rt num s h1) (by rw [e]), rdO_up h1 h2, e]
theorem wr_has {x : De} {num : Nat} {s : ByteArray} (h : wrO x num s = 0) (o : Nat) : (wrX x num s).has o = if num = o then cutB s else x.has o := by
  obtain ⟨e, h1, h2, h3⟩ := wr_at h
  rw [e, has_val, has_val]
  dsimp only
  rw [rdW_snoc]
  dsimp only
  by_cases hn : num = o
  · rw [if_pos hn, if_pos hn]; rfl
  · rw [if_neg hn, if_neg hn]
theorem wr_self {x : De} {num : Nat} {s : ByteArray} (h : wrO x num s = 0) : rdO (wrX x num s) num = 0 ∧ rdX (wrX x num s) num = cutB s := by
  obtain ⟨e, h1, h2, h3⟩ := wr_at h
  have h0 : rdO (wrX x num s) num = 0 := by rw [wr_rdO h, rdO_up h1 h2, if_neg (by omega)]
  exact ⟨h0, by rw [rdX_at h0, wr_has h, if_pos rfl]⟩
theorem wr_other {x : De} {num : Nat} {s : ByteArray} (h : wrO x num s = 0) {o : Nat} (hne : o ≠ num) : rdX (wrX x num s) o = rdX x o :=
  rdX_eq (wr_rdO h o) (by rw [wr_has h, if_neg (Ne.symm hne)])
/-! ## spoiling -/
theorem sp_at {x : De} {num : Nat} {s : ByteArray} (h : spO x num s = 0) : spX x num s = ⟨x.N, don ⟨num, cutB s⟩ x.D, x.W, x.dn, x.fu⟩ := by
  obtain ⟨h1, h2⟩ := spO_zero h
  unfold spX
  rw [if_pos h1, if_neg (by simpa using h2)]
theorem sp_rdO {x : De} {num : Nat} {s : ByteArray} (h : spO x num s = 0) (hd : x.dn = false) (o : Nat) : rdO (spX x num s) o = rdO x o := by
  obtain ⟨h1, h2⟩ := spO_zero h
  rw [rdO_up (sp_rt num s h1) (by rw [sp_at h]; exact hd), rdO_up h1 hd, sp_at h]
theorem sp_other {x : De} {num : Nat} {s : ByteArray} (h : spO x num s = 0) (hd : x.dn = false) {o : Nat} (hne : o ≠ num) : rdX (spX x num s) o = rdX x o := by
  refine rdX_eq (sp_rdO h hd o) ?_
  obtain ⟨h1, h2⟩ := spO_zero h
  rw [sp_at h, has_val, has_val]
  dsimp only
  rw [val_don _ _ (rt_parts h1).2.2.1]
  dsimp only
  rw [if_neg (Ne.symm hne)]
theorem sp_self {x : De} {num : Nat} {s : ByteArray} (h : spO x num s = 0) (hd : x.dn = false) (hW : ∀ b ∈ x.W, b.n ≠ num) : rdO (spX x num s) num = 0 ∧ rdX (spX x num s) num = cutB s := by
  obtain ⟨h1, h2⟩ := spO_zero h
  obtain ⟨h3, h4⟩ := had_zero.1 h2
  have h0 : rdO (spX x num s) num = 0 := by rw [sp_rdO h hd, rdO_up h1 hd, if_neg (by omega)]
  refine ⟨h0, ?_⟩
  rw [rdX_at h0, sp_at h, has_val]
  dsimp only
  rw [rdW_none hW, val_don _ _ (rt_parts h1).2.2.1]
  dsimp only
  rw [if_pos rfl]; rfl
/-! ## a crash -/
theorem cr_at {x : De} (kf : Nat → Bool) (h : x.rt = true) : crX x kf = ⟨x.N, app x.D (kpt kf x.W x.W.length), [], false, -1⟩ := by unfold crX; rw [if_pos h]
theorem cr_rdO {x : De} (kf : Nat → Bool) (h : x.rt = true) (num : Nat) : rdO (crX x kf) num = if x.N ≤ num then 1 else 0 := by
  rw [rdO_up (cr_rt kf h) (by rw [cr_at kf h]), cr_at kf h]
theorem cr_has {x : De} (kf : Nat → Bool) (h : x.rt = true) (num : Nat) : (crX x kf).has num = (rdW (kpt kf x.W x.W.length) num).getD (val x.D num) := by
  rw [cr_at kf h, has_val]
  exact val_app num (rt_parts h).2.2.1 _
theorem kp_all (n : Nat) {i : Nat} (h : i < n) : kp (List.replicate n true) i = true := by
  unfold kp; rw [List.getElem?_replicate, if_pos h]; rfl
theorem kpt_rep (W : List Bk) (n : Nat) : ∀ i, i ≤ n → i ≤ W.length → kpt (kp (List.replicate n true)) W i = W.take i
  | 0, _, _ => by simp [kpt]
  | i + 1, h, h2 => by
    rw [kpt, kpt_rep W n i (by omega) (by omega), kp_all n (by omega), if_pos rfl, List.take_add_one]
theorem kpt_full (W : List Bk) : kpt (kp (List.replicate W.length true)) W W.length = W := by
  rw [kpt_rep W _ _ (Nat.le_refl _) (Nat.le_refl _), List.take_length]
theorem kpt_nil (W : List Bk) : ∀ i, kpt (kp []) W i = []
  | 0 => rfl
  | i + 1 => by rw [kpt, kpt_nil W i]; rfl
end Go.Proofs.YtjkapmghifglcaaDoor.Dv
