/- What is collected from the last on is what is kept, the other way round; what newest and laid make of it. No walk here. -/
import Derived.Test.YtjkapmghifglcaaDoorDvQ
namespace Go.Proofs.YtjkapmghifglcaaDoor.Dv
set_option linter.unusedVariables false
open Ar Rg St
/-- of the first i writes those that are kept, in their order -/
def kpt (kf : Nat → Bool) (W : List Bk) : Nat → List Bk
  | 0 => []
  | i + 1 => kpt kf W i ++ (if kf i then (W[i]?).toList else [])
theorem col_kpt_at (kf : Nat → Bool) (W : List Bk) : ∀ j, j ≤ W.length → col kf (fl W j) ++ (kpt kf W (W.length - j)).reverse = (kpt kf W W.length).reverse
  | 0, _ => by simp [col, fl]
  | j + 1, hj => by
    obtain ⟨i, hi⟩ : ∃ i, W.length - j = i + 1 := ⟨W.length - j - 1, by omega⟩
    obtain ⟨x, hx⟩ : ∃ x, W[i]? = some x := ⟨_, List.getElem?_eq_getElem (by omega)⟩
    have ih := col_kpt_at kf W j (by omega)
    have e := fl_step hx
    rw [show W.length - i = j + 1 by omega, show W.length - (i + 1) = j by omega] at e
    rw [hi] at ih
    rw [show W.length - (j + 1) = i by omega, e, col_snoc, ← ih, kpt, hx]
    cases kf i <;> simp
theorem col_kpt (kf : Nat → Bool) (W : List Bk) : col kf (fl W W.length) = (kpt kf W W.length).reverse := by
  have := col_kpt_at kf W W.length (Nat.le_refl _)
  rw [Nat.sub_self] at this
  simpa [kpt] using this
/-- the medium with what newest answers laid over it is the medium with the kept writes done one after the other -/
theorem app_kept {D W S : List Bk} {kf : Nat → Bool} {m : Nat} (hm : m = W.length) (hD : UpK key D) (hs : Srt key lt S) (hc : Sm key (col kf (fl W m)) S) : app D (cm S S.length) = app D (kpt kf W W.length) := by
  subst hm
  rw [col_kpt] at hc
  exact app_newest hD hs hc
theorem kpt_all (W : List Bk) : ∀ i, i ≤ W.length → kpt (fun _ => true) W i = W.take i
  | 0, _ => by simp [kpt]
  | i + 1, hi => by
    rw [kpt, kpt_all W i (by omega), List.take_add_one]
    simp
end Go.Proofs.YtjkapmghifglcaaDoor.Dv
