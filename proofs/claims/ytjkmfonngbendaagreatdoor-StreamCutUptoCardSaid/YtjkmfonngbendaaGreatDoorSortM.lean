/- Plain mathematics of a stable sort by keys: a list that rises by key, and another one that has of each key the same, in the same order. No word of the program here. -/
import Derived.WalkKit
namespace Go.Proofs.YtjkmfonngbendaaGreatDoor.St
section
variable {α κ : Type}
structure Ord (lt : κ → κ → Bool) : Prop where
  asymm : ∀ a b, lt a b = true → lt b a = false
  trans : ∀ a b c, lt a b = true → lt b c = true → lt a c = true
  tri : ∀ a b, lt a b = false → lt b a = false → a = b
theorem Ord.irrefl {lt : κ → κ → Bool} (O : Ord lt) (a : κ) : lt a a = false := by
  cases h : lt a a
  · rfl
  · have := O.asymm a a h; rw [h] at this; cases this
theorem Ord.ne {lt : κ → κ → Bool} (O : Ord lt) {a b : κ} (h : lt a b = true) : a ≠ b := by
  rintro rfl
  rw [O.irrefl] at h; cases h
theorem Ord.le_trans {lt : κ → κ → Bool} (O : Ord lt) {a b c : κ} (h1 : lt b a = false) (h2 : lt c b = false) : lt c a = false := by
  cases h : lt c a
  · rfl
  · cases h3 : lt b c
    · have e := O.tri b c h3 h2
      subst e; rw [h] at h1; cases h1
    · have := O.trans b c a h3 h; rw [this] at h1; cases h1
theorem Ord.lt_le {lt : κ → κ → Bool} (O : Ord lt) {a b c : κ} (h1 : lt a b = true) (h2 : lt c b = false) : lt a c = true := by
  cases h : lt a c
  · cases h3 : lt c a
    · have e := O.tri a c h h3
      subst e; rw [h1] at h2; cases h2
    · have := O.trans c a b h3 h1; rw [this] at h2; cases h2
  · rfl
theorem Ord.le_lt {lt : κ → κ → Bool} (O : Ord lt) {a b c : κ} (h1 : lt b a = false) (h2 : lt b c = true) : lt a c = true := by
  cases h : lt a c
  · cases h3 : lt c a
    · have e := O.tri a c h h3
      subst e; rw [h2] at h1; cases h1
    · have := O.trans b c a h2 h3; rw [this] at h1; cases h1
  · rfl
variable (key : α → κ) (lt : κ → κ → Bool)
/-- a list that rises by key -/
def Srt (l : List α) : Prop := l.Pairwise fun a b => lt (key b) (key a) = false
variable {key lt}
theorem Srt.nil : Srt key lt ([] : List α) := List.Pairwise.nil
theorem Srt.one (x : α) : Srt key lt [x] := List.pairwise_singleton _ _
theorem Srt.append {a b : List α} : Srt key lt (a ++ b) ↔ Srt key lt a ∧ Srt key lt b ∧ ∀ x ∈ a, ∀ y ∈ b, lt (key y) (key x) = false := List.pairwise_append
theorem Srt.short {l : List α} (h : l.length ≤ 1) : Srt key lt l := by
  match l, h with
  | [], _ => exact Srt.nil
  | [x], _ => exact Srt.one x
/-- behind a sorted list's last element all others are not above it -/
theorem Srt.snoc_le (O : Ord lt) {l : List α} {z x : α} (h : Srt key lt (l ++ [z])) (hz : lt (key x) (key z) = false) : ∀ y ∈ l ++ [z], lt (key x) (key y) = false := by
  intro y hy
  rcases List.mem_append.1 hy with hy | hy
  · exact O.le_trans ((Srt.append.1 h).2.2 y hy z (by simp)) hz
  · simp at hy; subst hy; exact hz
theorem Srt.cons_lt (O : Ord lt) {l : List α} {z x : α} (h : Srt key lt (z :: l)) (hz : lt (key x) (key z) = true) : ∀ y ∈ z :: l, lt (key x) (key y) = true := by
  intro y hy
  rcases List.mem_cons.1 hy with rfl | hy
  · exact hz
  · have : Srt key lt ([z] ++ l) := h
    exact O.lt_le hz ((Srt.append.1 this).2.2 z (by simp) y hy)
theorem Srt.cons_ge (O : Ord lt) {l : List α} {z x : α} (h : Srt key lt (z :: l)) (hz : lt (key z) (key x) = false) : ∀ y ∈ z :: l, lt (key y) (key x) = false := by
  intro y hy
  rcases List.mem_cons.1 hy with rfl | hy
  · exact hz
  · have : Srt key lt ([z] ++ l) := h
    exact O.le_trans hz ((Srt.append.1 this).2.2 z (by simp) y hy)
theorem Srt.snoc_lt (O : Ord lt) {l : List α} {z x : α} (h : Srt key lt (l ++ [z])) (hz : lt (key z) (key x) = true) : ∀ y ∈ l ++ [z], lt (key y) (key x) = true := by
  intro y hy
  rcases List.mem_append.1 hy with hy | hy
  · exact O.le_lt ((Srt.append.1 h).2.2 y hy z (by simp)) hz
  · simp at hy; subst hy; exact hz
/-- an element put where it belongs -/
theorem Srt.put {a b : List α} {x : α} (h : Srt key lt (a ++ b)) (h1 : ∀ y ∈ a, lt (key x) (key y) = false) (h2 : ∀ y ∈ b, lt (key y) (key x) = false) : Srt key lt (a ++ x :: b) := by
  have h' := Srt.append.1 h
  refine Srt.append.2 ⟨h'.1, List.pairwise_cons.2 ⟨h2, h'.2.1⟩, ?_⟩
  intro y hy z hz
  rcases List.mem_cons.1 hz with rfl | hz
  · exact h1 y hy
  · exact h'.2.2 y hy z hz
variable [DecidableEq κ] (key)
/-- of each key the same, in the same order -/
def Sm (l l' : List α) : Prop := ∀ k, l.filter (fun x => key x = k) = l'.filter (fun x => key x = k)
variable {key}
theorem Sm.refl (l : List α) : Sm key l l := fun _ => rfl
theorem Sm.symm {a b : List α} (h : Sm key a b) : Sm key b a := fun k => (h k).symm
theorem Sm.trans {a b c : List α} (h : Sm key a b) (h' : Sm key b c) : Sm key a c := fun k => (h k).trans (h' k)
theorem Sm.append {a a' b b' : List α} (h : Sm key a a') (h' : Sm key b b') : Sm key (a ++ b) (a' ++ b') := fun k => by
  rw [List.filter_append, List.filter_append, h k, h' k]
theorem Sm.mem {a b : List α} (h : Sm key a b) (x : α) : x ∈ a ↔ x ∈ b := by
  have e := h (key x)
  have h1 : x ∈ a ↔ x ∈ a.filter (fun y => key y = key x) := by simp
  have h2 : x ∈ b ↔ x ∈ b.filter (fun y => key y = key x) := by simp
  rw [h1, h2, e]
theorem filter_none {l : List α} {k : κ} (h : ∀ x ∈ l, key x ≠ k) : l.filter (fun x => key x = k) = [] := by
  rw [List.filter_eq_nil_iff]
  intro x hx
  simpa using h x hx
theorem Sm.swap {a b : List α} (h : ∀ x ∈ a, ∀ y ∈ b, key x ≠ key y) : Sm key (a ++ b) (b ++ a) := fun k => by
  rw [List.filter_append, List.filter_append]
  by_cases hx : ∃ x ∈ a, key x = k
  · obtain ⟨x, hx, rfl⟩ := hx
    rw [filter_none (l := b) (fun y hy => fun e => h x hx y hy e.symm)]
    simp
  · rw [filter_none (l := a) (fun x hxa e => hx ⟨x, hxa, e⟩)]
    simp
/-- what a merge of two halves comes to -/
theorem merged (O : Ord lt) {X1 X2 Y1 Y2 R1 R2 : List α} (hX : Srt key lt (X1 ++ X2)) (hY : Srt key lt (Y1 ++ Y2))
    (h12 : ∀ x ∈ X1, ∀ y ∈ Y2, lt (key y) (key x) = false) (h21 : ∀ y ∈ Y1, ∀ x ∈ X2, lt (key y) (key x) = true)
    (m1 : Sm key (X1 ++ Y1) R1) (s1 : Srt key lt R1) (m2 : Sm key (X2 ++ Y2) R2) (s2 : Srt key lt R2) :
    Sm key ((X1 ++ X2) ++ (Y1 ++ Y2)) (R1 ++ R2) ∧ Srt key lt (R1 ++ R2) := by
  constructor
  · have e1 : Sm key (X1 ++ (X2 ++ Y1) ++ Y2) (X1 ++ (Y1 ++ X2) ++ Y2) := by
      refine Sm.append (Sm.append (Sm.refl _) (Sm.swap fun x hx y hy e => ?_)) (Sm.refl _)
      have := h21 y hy x hx
      rw [e, O.irrefl] at this; cases this
    have e2 := Sm.append m1 m2
    have e3 : X1 ++ X2 ++ (Y1 ++ Y2) = X1 ++ (X2 ++ Y1) ++ Y2 := by simp
    have e4 : X1 ++ (Y1 ++ X2) ++ Y2 = X1 ++ Y1 ++ (X2 ++ Y2) := by simp
    rw [e3]
    rw [e4] at e1
    exact e1.trans e2
  · refine Srt.append.2 ⟨s1, s2, fun x hx y hy => ?_⟩
    have hx := (m1.mem x).2 hx
    have hy := (m2.mem y).2 hy
    have hX' := Srt.append.1 hX
    have hY' := Srt.append.1 hY
    rcases List.mem_append.1 hx with hx | hx <;> rcases List.mem_append.1 hy with hy | hy
    · exact hX'.2.2 x hx y hy
    · exact h12 x hx y hy
    · exact O.asymm _ _ (h21 x hx y hy)
    · exact hY'.2.2 x hx y hy
end
end Go.Proofs.YtjkmfonngbendaaGreatDoor.St
