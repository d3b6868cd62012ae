/- Of a sorted list of blocks the first of each number (cm) is, of what was collected from the last on, the last of each number; no walk here. -/
import Derived.Test.YtjkapmghifglcaaDoorDvJ
namespace Go.Proofs.YtjkapmghifglcaaDoor.Dv
set_option linter.unusedVariables false
open Ar Rg St
def Fst (C : List Bk) (c : Bk) : Prop := (C.filter fun d => key d = key c).head? = some c
theorem Fst.mem {C : List Bk} {c : Bk} (h : Fst C c) : c ∈ C := (List.mem_filter.1 (List.mem_of_head? h)).1
theorem Fst.snoc {A : List Bk} {x c : Bk} : Fst (A ++ [x]) c ↔ Fst A c ∨ ((∀ d ∈ A, key d ≠ key c) ∧ x = c) := by
  unfold Fst
  rw [List.filter_append]
  cases hA : A.filter (fun d => decide (key d = key c)) with
  | nil =>
    have hn : ∀ d ∈ A, key d ≠ key c := fun d hd e => by
      have := List.filter_eq_nil_iff.1 hA d hd
      simp [e] at this
    rw [List.nil_append]
    by_cases hk : key x = key c
    · rw [List.filter_cons_of_pos (by simpa using hk)]
      simp only [List.head?_cons, Option.some.injEq]
      exact ⟨fun h => Or.inr ⟨hn, h⟩, fun h => h.elim (fun h => by simp at h) (fun h => h.2)⟩
    · rw [List.filter_cons_of_neg (by simpa using hk)]
      simp
      intro _ e
      exact hk (by rw [e])
  | cons z t =>
    have hz : z ∈ A ∧ key z = key c := by
      have := List.mem_filter.1 (show z ∈ A.filter (fun d => decide (key d = key c)) by rw [hA]; exact List.mem_cons_self)
      simpa using this
    rw [List.cons_append, List.head?_cons, List.head?_cons]
    constructor
    · exact Or.inl
    · rintro (h | ⟨h, _⟩)
      · exact h
      · exact absurd hz.2 (h z hz.1)
theorem Fst.same {C C' : List Bk} (h : Sm key C C') (c : Bk) : Fst C c ↔ Fst C' c := by unfold Fst; rw [h (key c)]
theorem Fst.rev {K : List Bk} (c : Bk) : Fst K.reverse c ↔ Lst K c := by
  unfold Fst Lst
  rw [List.filter_reverse, List.head?_reverse]
theorem cm_spec {S : List Bk} (hs : Srt key lt S) : ∀ q, q ≤ S.length → UpK key (cm S q) ∧ ∀ c, c ∈ cm S q ↔ Fst (S.take q) c
  | 0, _ => ⟨UpK.nil, fun c => by simp [cm, Fst]⟩
  | q + 1, hq => by
    obtain ⟨i1, i2⟩ := cm_spec hs q (by omega)
    obtain ⟨x, hx⟩ : ∃ x, S[q]? = some x := ⟨_, List.getElem?_eq_getElem (by omega)⟩
    have ht : S.take (q + 1) = S.take q ++ [x] := by rw [List.take_add_one, hx]; rfl
    have hs2 : Srt key lt (S.take q ++ [x]) := by rw [← ht]; exact List.Pairwise.sublist (List.take_sublist _ _) hs
    have hge : ∀ d ∈ S.take q, lt (key x) (key d) = false := fun d hd => (Srt.append.1 hs2).2.2 d hd x (by simp)
    by_cases hn : nw S q = true
    · have hne : ∀ d ∈ S.take q, lt (key d) (key x) = true := by
        intro d hd
        cases q with
        | zero => simp at hd
        | succ q =>
          obtain ⟨y, hy⟩ : ∃ y, S[q]? = some y := ⟨_, List.getElem?_eq_getElem (by omega)⟩
          have ht2 : S.take (q + 1) = S.take q ++ [y] := by rw [List.take_add_one, hy]; rfl
          have h3 := nw_at hx hy
          rw [hn] at h3
          have h4 : ¬ x.n = y.n := by simpa using h3.symm
          have h5 : lt (key y) (key x) = true := le_ne (hge y (by rw [ht2]; simp)) (fun e => h4 e)
          rw [ht2] at hd hs2
          exact Srt.snoc_lt O (Srt.append.1 hs2).1 h5 d hd
      have e : cm S (q + 1) = cm S q ++ [x] := by
        rw [cm, hn, hx]
        rfl
      refine ⟨?_, fun c => ?_⟩
      · rw [e]
        exact UpK.append.2 ⟨i1, UpK.one _, fun a ha b hb => by
          simp at hb
          subst hb
          exact hne a ((i2 a).1 ha).mem⟩
      · rw [e, ht, Fst.snoc, List.mem_append, i2]
        constructor
        · rintro (h | h)
          · exact Or.inl h
          · simp at h
            subst h
            refine Or.inr ⟨fun d hd e2 => ?_, rfl⟩
            have := hne d hd
            rw [e2] at this
            exact Bool.noConfusion (this.symm.trans (O.asymm _ _ this))
        · rintro (h | ⟨_, h⟩)
          · exact Or.inl h
          · exact Or.inr (by simp [h])
    · have hn' : nw S q = false := by simpa using hn
      have e : cm S (q + 1) = cm S q := by
        rw [cm, hn']
        simp
      have hy : ∃ y ∈ S.take q, key y = key x := by
        cases q with
        | zero => simp [nw] at hn'
        | succ q =>
          obtain ⟨y, hy⟩ : ∃ y, S[q]? = some y := ⟨_, List.getElem?_eq_getElem (by omega)⟩
          have h3 := nw_at hx hy
          rw [hn'] at h3
          have h4 : x.n = y.n := by simpa using h3
          exact ⟨y, by rw [List.take_add_one, hy]; simp, h4.symm⟩
      obtain ⟨y, hy1, hy2⟩ := hy
      refine ⟨by rw [e]; exact i1, fun c => ?_⟩
      rw [e, ht, Fst.snoc, i2]
      constructor
      · exact Or.inl
      · rintro (h | ⟨h, rfl⟩)
        · exact h
        · exact absurd hy2 (h y hy1)
/-- what newest makes of what was collected from the last on -/
theorem cm_newest {K S : List Bk} (hs : Srt key lt S) (hm : Sm key K.reverse S) : UpK key (cm S S.length) ∧ ∀ c, c ∈ cm S S.length ↔ Lst K c := by
  obtain ⟨h1, h2⟩ := cm_spec hs S.length (Nat.le_refl _)
  refine ⟨h1, fun c => ?_⟩
  rw [h2, List.take_length, ← Fst.same hm, Fst.rev]
theorem app_newest {D K S : List Bk} (hD : UpK key D) (hs : Srt key lt S) (hm : Sm key K.reverse S) : app D (cm S S.length) = app D K := by
  obtain ⟨h1, h2⟩ := cm_newest hs hm
  exact app_same hD fun c => by rw [up_lst h1, h2]
end Go.Proofs.YtjkapmghifglcaaDoor.Dv
