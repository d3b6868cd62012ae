/- TopWritten, as plain mathematics: a device to which items' bytes are written one by one, flushed at times, crashed. No walk here. -/
import Derived.Test.YtjkapmghifglcaaDoorDwD
namespace Go.Proofs.YtjkapmghifglcaaDoor.Dv
set_option linter.unusedVariables false
open Ar Rg St
/-- sure of the i items so far lie on the medium, the others wait -/
structure Tw (x : De) (dat : Nat → ByteArray) (sure i : Nat) : Prop where
  N : x.N = 16
  dn : x.dn = false
  fu : x.fu = -1
  rt : x.rt = true
  le : sure ≤ i
  W : x.W = (List.range' sure (i - sure)).map fun j => (⟨j, dat j⟩ : Bk)
  D : ∀ num, val x.D num = if num < sure then dat num else ByteArray.empty
def tw0 : De := ⟨16, [], [], false, -1⟩
theorem Tw.zero (dat : Nat → ByteArray) : Tw tw0 dat 0 0 :=
  ⟨rfl, rfl, rfl, rt_mk (by decide) (by decide) List.Pairwise.nil (fun _ h => by cases h) (Nat.zero_le _) (fun _ h => by cases h), Nat.le_refl _, rfl, fun num => by rw [if_neg (Nat.not_lt_zero _)]; rfl⟩
theorem burnE_m : burnE (-1) = 0 := rfl
theorem burnF_m : burnF (-1) = -1 := rfl
theorem Tw.write {x : De} {dat : Nat → ByteArray} {sure i : Nat} (h : Tw x dat sure i) (hi : i < 16) (hs : (dat i).size ≤ 512) (hx : sfx (dat i) = false) : wrO x i (dat i) = 0 ∧ Tw (wrX x i (dat i)) dat sure (i + 1) := by
  have hl : x.W.length = i - sure := by rw [h.W]; simp
  have h0 : wrO x i (dat i) = 0 := by
    unfold wrO
    rw [if_pos h.rt, if_neg (by rw [Decidable.not_not, why_zero]; exact ⟨h.dn, by rw [h.N]; exact hi, hs, by rw [hl]; omega⟩), h.fu]; rfl
  refine ⟨h0, ?_⟩
  obtain ⟨e, h1, h2, h3⟩ := wr_at h0
  have hr := wr_rt i (dat i) h.rt
  rw [e] at hr ⊢
  have hsu := h.le
  refine ⟨h.N, rfl, by dsimp only; rw [h.fu]; rfl, hr, by omega, ?_, h.D⟩
  dsimp only
  rw [h.W, cutB_same hx, show i + 1 - sure = (i - sure) + 1 by omega, List.range'_concat, List.map_append, List.map_singleton, show sure + 1 * (i - sure) = i by omega]
theorem rdW_range (dat : Nat → ByteArray) (s num : Nat) : ∀ k, rdW ((List.range' s k).map fun j => (⟨j, dat j⟩ : Bk)) num = if s ≤ num ∧ num < s + k then some (dat num) else none
  | 0 => by rw [if_neg (by omega)]; rfl
  | k + 1 => by
    rw [List.range'_concat, List.map_append, List.map_singleton, rdW_snoc, rdW_range dat s num k]
    dsimp only
    by_cases h : s + 1 * k = num
    · rw [if_pos h, if_pos (by omega), h]
    · rw [if_neg h]
      by_cases h2 : s ≤ num ∧ num < s + k
      · rw [if_pos h2, if_pos (by omega)]
      · rw [if_neg h2, if_neg (by omega)]
theorem Tw.flush {x : De} {dat : Nat → ByteArray} {sure i : Nat} (h : Tw x dat sure i) : flO x = 0 ∧ Tw (flX x) dat i i := by
  have h0 : flO x = 0 := by unfold flO; rw [if_pos h.rt, if_neg (by rw [h.dn]; exact Bool.false_ne_true), h.fu]; rfl
  refine ⟨h0, ?_⟩
  have hr := fl_rt h.rt
  have e := fl_at h0
  rw [e] at hr ⊢
  refine ⟨h.N, rfl, by dsimp only; rw [h.fu]; rfl, hr, Nat.le_refl _, by rw [Nat.sub_self]; rfl, fun num => ?_⟩
  dsimp only
  rw [val_app num (rt_parts h.rt).2.2.1, h.W, rdW_range, h.D]
  have := h.le
  by_cases h1 : num < i
  · rw [if_pos h1]
    by_cases h2 : sure ≤ num ∧ num < sure + (i - sure)
    · rw [if_pos h2]; rfl
    · rw [if_neg h2, if_pos (by omega)]; rfl
  · rw [if_neg h1, if_neg (by omega), if_neg (by omega)]; rfl
theorem rdW_kpt (dat : Nat → ByteArray) (kf : Nat → Bool) (s num K : Nat) : ∀ k, k ≤ K → rdW (kpt kf ((List.range' s K).map fun j => (⟨j, dat j⟩ : Bk)) k) num = if (s ≤ num ∧ num < s + k) ∧ kf (num - s) = true then some (dat num) else none
  | 0, _ => by rw [if_neg (by omega)]; rfl
  | k + 1, hk => by
    rw [kpt]
    have hg : ((List.range' s K).map fun j => (⟨j, dat j⟩ : Bk))[k]? = some ⟨s + k, dat (s + k)⟩ := by
      rw [List.getElem?_map, List.getElem?_range' (by omega)]; simp
    rw [hg]
    by_cases hkf : kf k = true
    · rw [if_pos hkf, Option.toList_some, rdW_snoc, rdW_kpt dat kf s num K k (by omega)]
      dsimp only
      by_cases h : s + k = num
      · rw [if_pos h, if_pos ⟨by omega, by rw [show num - s = k by omega]; exact hkf⟩, h]
      · rw [if_neg h]
        by_cases h2 : (s ≤ num ∧ num < s + k) ∧ kf (num - s) = true
        · rw [if_pos h2, if_pos ⟨by omega, h2.2⟩]
        · rw [if_neg h2, if_neg (by intro h3; exact h2 ⟨by omega, h3.2⟩)]
    · rw [if_neg hkf, List.append_nil, rdW_kpt dat kf s num K k (by omega)]
      by_cases h2 : (s ≤ num ∧ num < s + k) ∧ kf (num - s) = true
      · rw [if_pos h2, if_pos ⟨by omega, h2.2⟩]
      · rw [if_neg h2, if_neg]
        intro h3
        refine h2 ⟨⟨h3.1.1, ?_⟩, h3.2⟩
        rcases Nat.lt_or_ge num (s + k) with h | h
        · exact h
        · exact absurd (by rw [show k = num - s by omega]; exact h3.2) hkf
/-- whether the item num is there behind the crash -/
def kept (sure i : Nat) (kf : Nat → Bool) (num : Nat) : Bool := decide (num < sure) || (decide (sure ≤ num) && kf (num - sure))
theorem Tw.crash {x : De} {dat : Nat → ByteArray} {sure i : Nat} (h : Tw x dat sure i) (kf : Nat → Bool) {num : Nat} (hi : num < i) (h16 : num < 16) :
    rdO (crX x kf) num = 0 ∧ rdX (crX x kf) num = if kept sure i kf num then dat num else ByteArray.empty := by
  have h0 : rdO (crX x kf) num = 0 := by rw [cr_rdO kf h.rt, h.N, if_neg (by omega)]
  refine ⟨h0, ?_⟩
  have hl : x.W.length = i - sure := by rw [h.W]; simp
  have := h.le
  rw [rdX_at h0, cr_has kf h.rt, hl, h.W, rdW_kpt dat kf sure num _ _ (Nat.le_refl _), h.D]
  unfold kept
  by_cases h1 : num < sure
  · rw [if_neg (by omega), decide_eq_true h1, if_pos h1]; rfl
  · rw [decide_eq_false h1, decide_eq_true (show sure ≤ num by omega), Bool.false_or, Bool.true_and, if_neg h1]
    by_cases h2 : kf (num - sure) = true
    · rw [if_pos ⟨by omega, h2⟩, if_pos h2]; rfl
    · rw [if_neg (by intro h3; exact h2 h3.2), if_neg h2]; rfl
theorem Tw.cho {x : De} {dat : Nat → ByteArray} {sure i : Nat} (h : Tw x dat sure i) : chO x = 0 := chO_zero.2 h.rt
end Go.Proofs.YtjkapmghifglcaaDoor.Dv
