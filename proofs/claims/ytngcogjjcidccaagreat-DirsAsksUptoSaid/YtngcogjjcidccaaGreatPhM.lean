/- Plain mathematics of names and paths: a path's names, the path of names, one under another. No word of the program's code here. -/
import Derived.Lib.Bytealg
namespace Go.Proofs.YtngcogjjcidccaaGreat.Ph
set_option linter.unusedVariables false
set_option linter.unusedSimpArgs false
/-- a name -/
def nm (l : List UInt8) : Bool := !l.isEmpty && decide (l.length ≤ 24) && !(l == [46]) && !(l == [46, 46]) && !l.contains 47 && !l.contains 0
theorem nm_iff {l : List UInt8} : nm l = true ↔ l ≠ [] ∧ l.length ≤ 24 ∧ l ≠ [46] ∧ l ≠ [46, 46] ∧ 47 ∉ l ∧ 0 ∉ l := by
  unfold nm
  cases l with
  | nil => simp
  | cons a l => simp [and_assoc, Classical.or_iff_not_imp_left]
/-- a name, of a string -/
def nb (s : ByteArray) : Bool := nm s.data.toList
theorem nm_len {l : List UInt8} (h : nm l = true) : 1 ≤ l.length ∧ l.length ≤ 24 := by
  obtain ⟨h1, h2, _⟩ := nm_iff.1 h
  refine ⟨?_, h2⟩
  cases l with
  | nil => exact absurd rfl h1
  | cons a l => simp
/-- what stands between slashes -/
def cut : List UInt8 → List (List UInt8)
  | [] => [[]]
  | c :: l => if c = 47 then [] :: cut l else (c :: (cut l).headD []) :: (cut l).tail
theorem cut_ne (l : List UInt8) : cut l ≠ [] := by
  cases l with
  | nil => simp [cut]
  | cons c l => unfold cut; split <;> simp
theorem cut_head (l : List UInt8) : cut l = (cut l).headD [] :: (cut l).tail := by
  cases h : cut l with
  | nil => exact absurd h (cut_ne l)
  | cons a r => simp
theorem cut_none {l : List UInt8} (h : 47 ∉ l) : cut l = [l] := by
  induction l with
  | nil => rfl
  | cons c l ih =>
    rw [List.mem_cons, not_or] at h
    rw [cut, if_neg (fun e => h.1 e.symm), ih h.2]
    rfl
theorem cut_app {l : List UInt8} (r : List UInt8) (h : 47 ∉ l) : cut (l ++ 47 :: r) = l :: cut r := by
  induction l with
  | nil => simp [cut]
  | cons c l ih =>
    rw [List.mem_cons, not_or] at h
    rw [List.cons_append, cut, if_neg (fun e => h.1 e.symm), ih h.2]
    rfl
theorem cut_no {l : List UInt8} : ∀ x ∈ cut l, 47 ∉ x := by
  induction l with
  | nil => simp [cut]
  | cons c l ih =>
    intro x hx
    unfold cut at hx
    split at hx
    · rcases List.mem_cons.1 hx with rfl | hx
      · simp
      · exact ih x hx
    · rename_i hc
      rw [cut_head l] at ih
      rcases List.mem_cons.1 hx with rfl | hx
      · rw [List.mem_cons, not_or]
        exact ⟨fun e => hc e.symm, ih _ (List.mem_cons_self ..)⟩
      · exact ih x (List.mem_cons_of_mem _ hx)
/-- names, a slash between each two -/
def joi : List (List UInt8) → List UInt8
  | [] => []
  | x :: r => if r = [] then x else x ++ 47 :: joi r
theorem joi_one (x : List UInt8) : joi [x] = x := by simp [joi]
theorem joi_cons {x : List UInt8} {r : List (List UInt8)} (h : r ≠ []) : joi (x :: r) = x ++ 47 :: joi r := by simp [joi, h]
theorem joi_cut (l : List UInt8) : joi (cut l) = l := by
  induction l with
  | nil => rfl
  | cons c l ih =>
    unfold cut
    split
    · rename_i h
      rw [joi_cons (cut_ne l), ih, h]; rfl
    · rw [cut_head l] at ih
      by_cases ht : (cut l).tail = []
      · rw [ht] at ih ⊢
        rw [joi_one] at ih ⊢
        rw [ih]
      · rw [joi_cons ht] at ih ⊢
        rw [List.cons_append, ih]
theorem cut_joi {ls : List (List UInt8)} (h0 : ls ≠ []) (h : ∀ x ∈ ls, 47 ∉ x) : cut (joi ls) = ls := by
  induction ls with
  | nil => exact absurd rfl h0
  | cons x r ih =>
    by_cases hr : r = []
    · subst hr
      rw [joi_one, cut_none (h x (List.mem_cons_self ..))]
    · rw [joi_cons hr, cut_app _ (h x (List.mem_cons_self ..)), ih hr (fun y hy => h y (List.mem_cons_of_mem _ hy))]
theorem joi_ne {ls : List (List UInt8)} (h0 : ls ≠ []) (h : ls.all nm = true) : joi ls ≠ [] := by
  cases ls with
  | nil => exact absurd rfl h0
  | cons x r =>
    rw [List.all_cons, Bool.and_eq_true] at h
    have := (nm_len h.1).1
    unfold joi
    split
    · intro e; rw [e] at this; simp at this
    · simp
theorem all_no {ls : List (List UInt8)} (h : ls.all nm = true) : ∀ x ∈ ls, 47 ∉ x := fun x hx => (nm_iff.1 (List.all_eq_true.1 h x hx)).2.2.2.2.1
/-- the names of a path, and which error -/
def spN (p : List UInt8) : List (List UInt8) := if 256 < p.length ∨ p = [47] ∨ p.head? ≠ some 47 ∨ (cut p.tail).all nm = false then [] else cut p.tail
def spE (p : List UInt8) : Int := if 256 < p.length then 2 else if p = [47] then 0 else if p.head? ≠ some 47 ∨ (cut p.tail).all nm = false then 10 else 0
/-- the path of names, and which error -/
def jnP (ls : List (List UInt8)) : List UInt8 := if ls.all nm = false ∨ 256 < (47 :: joi ls).length then [] else 47 :: joi ls
def jnE (ls : List (List UInt8)) : Int := if ls.all nm = false then 10 else if 256 < (47 :: joi ls).length then 2 else 0
theorem sp_err {p : List UInt8} (h : spE p ≠ 0) : spN p = [] := by
  unfold spE at h
  unfold spN
  by_cases h1 : 256 < p.length
  · rw [if_pos (.inl h1)]
  · by_cases h2 : p = [47]
    · rw [if_pos (.inr (.inl h2))]
    · by_cases h3 : p.head? ≠ some 47 ∨ (cut p.tail).all nm = false
      · rw [if_pos (.inr (.inr h3))]
      · rw [if_neg h1, if_neg h2, if_neg h3] at h
        exact absurd rfl h
theorem jn_err {ls : List (List UInt8)} (h : jnE ls ≠ 0) : jnP ls = [] := by
  unfold jnE at h
  unfold jnP
  by_cases h1 : ls.all nm = false
  · rw [if_pos (.inl h1)]
  · by_cases h2 : 256 < (47 :: joi ls).length
    · rw [if_pos (.inr h2)]
    · rw [if_neg h1, if_neg h2] at h
      exact absurd rfl h
/-- what a path is whose names there are -/
theorem sp_ok {p : List UInt8} (h : spE p = 0) : p.length ≤ 256 ∧ (spN p).all nm = true ∧ p = 47 :: joi (spN p) := by
  unfold spE at h
  unfold spN
  by_cases h1 : 256 < p.length
  · rw [if_pos h1] at h; exact absurd h (by decide)
  · rw [if_neg h1] at h
    refine ⟨by omega, ?_⟩
    by_cases h2 : p = [47]
    · rw [if_pos (.inr (.inl h2))]
      subst h2
      exact ⟨rfl, rfl⟩
    · rw [if_neg h2] at h
      by_cases h3 : p.head? ≠ some 47 ∨ (cut p.tail).all nm = false
      · rw [if_pos h3] at h; exact absurd h (by decide)
      · rw [if_neg (by rintro (h | h | h); exact h1 h; exact h2 h; exact h3 h), joi_cut]
        obtain ⟨h4, h5⟩ := not_or.1 h3
        have h4 : p.head? = some 47 := Classical.not_not.1 h4
        refine ⟨by simpa using h5, ?_⟩
        cases p with
        | nil => simp at h4
        | cons a p => simp at h4; subst h4; rfl
theorem jn_ok {ls : List (List UInt8)} (h : jnE ls = 0) : ls.all nm = true ∧ (47 :: joi ls).length ≤ 256 ∧ jnP ls = 47 :: joi ls := by
  unfold jnE at h
  unfold jnP
  by_cases h1 : ls.all nm = false
  · rw [if_pos h1] at h; exact absurd h (by decide)
  · by_cases h2 : 256 < (47 :: joi ls).length
    · rw [if_neg h1, if_pos h2] at h; exact absurd h (by decide)
    · rw [if_neg (by rintro (h | h); exact h1 h; exact h2 h)]
      exact ⟨by simpa using h1, by omega, rfl⟩
/-- the names of what names make -/
theorem sp_of {ls : List (List UInt8)} (h : ls.all nm = true) (hl : (47 :: joi ls).length ≤ 256) : spN (47 :: joi ls) = ls ∧ spE (47 :: joi ls) = 0 := by
  by_cases h0 : ls = []
  · subst h0
    exact ⟨rfl, rfl⟩
  · have hj := joi_ne h0 h
    have h2 : ¬ (47 :: joi ls) = [47] := fun e => hj (by injection e)
    have hc := cut_joi h0 (all_no h)
    unfold spN spE
    rw [if_neg (by rintro (e | e | e | e); omega; exact h2 e; exact e rfl; rw [List.tail_cons, hc, h] at e; cases e), if_neg (by omega), if_neg h2, if_neg (by rintro (e | e); exact e rfl; rw [List.tail_cons, hc, h] at e; cases e), List.tail_cons, hc]
    exact ⟨rfl, rfl⟩
theorem jn_of {ls : List (List UInt8)} (h : ls.all nm = true) (hl : (47 :: joi ls).length ≤ 256) : jnP ls = 47 :: joi ls ∧ jnE ls = 0 := by
  unfold jnP jnE
  rw [if_neg (by rintro (e | e); rw [h] at e; cases e; omega), if_neg (by rw [h]; decide), if_neg (by omega)]
  exact ⟨rfl, rfl⟩
theorem jn_sp {p : List UInt8} (h : spE p = 0) : jnP (spN p) = p ∧ jnE (spN p) = 0 := by
  obtain ⟨h1, h2, h3⟩ := sp_ok h
  have := jn_of h2 (by rw [← h3]; exact h1)
  rw [← h3] at this
  exact this
theorem sp_jn {ls : List (List UInt8)} (h : jnE ls = 0) : spN (jnP ls) = ls ∧ spE (jnP ls) = 0 := by
  obtain ⟨h1, h2, h3⟩ := jn_ok h
  rw [h3]
  exact sp_of h1 h2
/-- a name is a path of one -/
theorem one_name (s : List UInt8) : (spE (47 :: s) = 0 ∧ spN (47 :: s) = [s]) ↔ nm s = true := by
  constructor
  · rintro ⟨h1, h2⟩
    have := (sp_ok h1).2.1
    rw [h2] at this
    simpa using this
  · intro h
    have hl := nm_len h
    have := sp_of (ls := [s]) (by simpa using h) (by simp [joi_one]; omega)
    rw [joi_one] at this
    exact ⟨this.2, this.1⟩
theorem nm_slash_end (s : List UInt8) : nm (s ++ [47]) = false := by
  cases h : nm (s ++ [47]) with
  | false => rfl
  | true => exact absurd (by simp) (nm_iff.1 h).2.2.2.2.1
theorem nm_slash_head (s : List UInt8) : nm (47 :: s) = false := by
  cases h : nm (47 :: s) with
  | false => rfl
  | true => exact absurd (by simp) (nm_iff.1 h).2.2.2.2.1
theorem spN_len (p : List UInt8) : (spN p).length ≤ 256 := by
  by_cases h : spE p = 0
  · obtain ⟨h1, h2, h3⟩ := sp_ok h
    have key : ∀ ls : List (List UInt8), ls.all nm = true → ls.length ≤ (joi ls).length := by
      intro ls
      induction ls with
      | nil => intro _; exact Nat.le_refl _
      | cons x r ih =>
        intro ha
        rw [List.all_cons, Bool.and_eq_true] at ha
        have hx := (nm_len ha.1).1
        have := ih ha.2
        unfold joi
        split
        · rename_i e; subst e; simpa using hx
        · simp; omega
    have := key _ h2
    rw [h3] at h1
    simp only [List.length_cons] at h1
    omega
  · rw [sp_err h]; simp
end Go.Proofs.YtngcogjjcidccaaGreat.Ph
