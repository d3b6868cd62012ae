/- Mathematics of what leads to what: sums over a list without repeats, cells that are let go. No word of the program here. -/
import Derived.Test.YtlpejbbmemhloaaGreatDoorNdN
namespace Go.Proofs.YtlpejbbmemhloaaGreatDoor.Hp
set_option linter.unusedVariables false
theorem sum_upd {P : List Nat} {c : Nat} {f g : Nat → Nat} (hn : P.Nodup) (hc : c ∈ P) (h : ∀ p, p ∈ P → p ≠ c → g p = f p) : (P.map g).sum + f c = (P.map f).sum + g c := by
  induction P with
  | nil => cases hc
  | cons x P ih =>
    rw [List.nodup_cons] at hn
    simp only [List.map_cons, List.sum_cons]
    by_cases e : x = c
    · subst e
      have : P.map g = P.map f := List.map_congr_left fun p hp => h p (List.mem_cons_of_mem _ hp) (fun e => hn.1 (e ▸ hp))
      rw [this]
      omega
    · have hc' : c ∈ P := by
        rcases List.mem_cons.1 hc with h1 | h1
        · exact absurd h1.symm e
        · exact h1
      have h1 := ih hn.2 hc' fun p hp => h p (List.mem_cons_of_mem _ hp)
      have h2 := h x List.mem_cons_self e
      omega
theorem sum_same {P : List Nat} {f g : Nat → Nat} (h : ∀ p, p ∈ P → g p = f p) : (P.map g).sum = (P.map f).sum := by rw [List.map_congr_left h]
theorem sum_zero {P : List Nat} {f : Nat → Nat} (h : (P.map f).sum = 0) : ∀ p ∈ P, f p = 0 := by
  induction P with
  | nil => intro p hp; cases hp
  | cons x P ih =>
    simp only [List.map_cons, List.sum_cons] at h
    intro p hp
    rcases List.mem_cons.1 hp with rfl | hp
    · omega
    · exact ih (by omega) p hp
theorem sum_le {P : List Nat} {f : Nat → Nat} {p : Nat} (hp : p ∈ P) : f p ≤ (P.map f).sum := by
  induction P with
  | nil => cases hp
  | cons x P ih =>
    simp only [List.map_cons, List.sum_cons]
    rcases List.mem_cons.1 hp with rfl | hp
    · omega
    · have := ih hp; omega
theorem sum_count {P : List Nat} {b : Nat → List Nat} (x : Nat) : (P.flatMap b).count x = (P.map fun p => (b p).count x).sum := by
  induction P with
  | nil => rfl
  | cons y P ih => rw [List.flatMap_cons, List.count_append, ih, List.map_cons, List.sum_cons]
/-- how many of the cells that there are lead to one -/
def lds (P : List Nat) (bl : Nat → List Nat) (gn : Nat → Bool) (x : Nat) : Nat := (P.map fun p => if gn p then 0 else (bl p).count x).sum
/-- while cells are let go (those of k wait): each one's Refs are what it is held, those that lead to it, and those that wait -/
structure Inv (P : List Nat) (bl : Nat → List Nat) (hd : Nat → Nat) (r : Nat → Int) (gn : Nat → Bool) (k : List Nat) : Prop where
  live : ∀ x ∈ P, gn x = false → r x = hd x + lds P bl gn x + k.count x
  dead : ∀ x ∈ P, gn x = true → lds P bl gn x = 0 ∧ k.count x = 0
  wait : ∀ x ∈ k, x ∈ P
def updF {α : Type} (f : Nat → α) (p : Nat) (v : α) : Nat → α := fun q => if q = p then v else f q
theorem updF_same {α : Type} (f : Nat → α) (p : Nat) (v : α) : updF f p v p = v := by unfold updF; rw [if_pos rfl]
theorem updF_other {α : Type} {f : Nat → α} {p q : Nat} {v : α} (h : q ≠ p) : updF f p v q = f q := by unfold updF; rw [if_neg h]
theorem lds_gone {P : List Nat} {bl : Nat → List Nat} {gn : Nat → Bool} {c : Nat} (hn : P.Nodup) (hc : c ∈ P) (hg : gn c = false) (x : Nat) : lds P bl (updF gn c true) x + (bl c).count x = lds P bl gn x := by
  have := sum_upd (f := fun p => if gn p then 0 else (bl p).count x) (g := fun p => if updF gn c true p then 0 else (bl p).count x) hn hc (fun p _ hp => by simp only [updF_other hp])
  simp only [updF_same, if_true, hg] at this
  unfold lds
  simpa using this
theorem Inv.alive {P : List Nat} {bl : Nat → List Nat} {hd : Nat → Nat} {r : Nat → Int} {gn : Nat → Bool} {k : List Nat} {c : Nat} (h : Inv P bl hd r gn (k ++ [c])) : c ∈ P ∧ gn c = false ∧ r c = hd c + lds P bl gn c + k.count c + 1 := by
  have hP : c ∈ P := h.wait c (by simp)
  have hg : gn c = false := by
    cases e : gn c
    · rfl
    · have := (h.dead c hP e).2
      rw [List.count_append, List.count_cons_self] at this
      omega
  refine ⟨hP, hg, ?_⟩
  have := h.live c hP hg
  rw [List.count_append, List.count_cons_self, List.count_nil] at this
  rw [this]
  push_cast
  omega
theorem count_snoc_ne {k : List Nat} {c x : Nat} (h : x ≠ c) : (k ++ [c]).count x = k.count x := by
  rw [List.count_append, List.count_cons_of_ne (Ne.symm h), List.count_nil, Nat.add_zero]
/-- one Ref less, and some are left -/
theorem Inv.less {P : List Nat} {bl : Nat → List Nat} {hd : Nat → Nat} {r : Nat → Int} {gn : Nat → Bool} {k : List Nat} {c : Nat} (h : Inv P bl hd r gn (k ++ [c])) : Inv P bl hd (updF r c (r c - 1)) gn k := by
  obtain ⟨hP, hg, hr⟩ := h.alive
  refine ⟨fun x hx hgx => ?_, fun x hx hgx => ?_, fun x hx => h.wait x (by simp [hx])⟩
  · by_cases e : x = c
    · subst e; rw [updF_same]; omega
    · rw [updF_other e]
      have := h.live x hx hgx
      rwa [count_snoc_ne e] at this
  · have := h.dead x hx hgx
    have e : x ≠ c := fun e => by rw [e, hg] at hgx; cases hgx
    rwa [count_snoc_ne e] at this
/-- the last Ref: it is no more -/
theorem Inv.gone {P : List Nat} {bl : Nat → List Nat} {hd : Nat → Nat} {r : Nat → Int} {gn : Nat → Bool} {k : List Nat} {c : Nat} (hn : P.Nodup) (hb : ∀ p ∈ P, ∀ q ∈ bl p, q ∈ P) (h : Inv P bl hd r gn (k ++ [c])) (h0 : r c - 1 = 0) :
    Inv P bl hd (updF r c 0) (updF gn c true) (k ++ bl c) := by
  obtain ⟨hP, hg, hr⟩ := h.alive
  have hz : hd c = 0 ∧ lds P bl gn c = 0 ∧ k.count c = 0 := by omega
  refine ⟨fun x hx hgx => ?_, fun x hx hgx => ?_, fun x hx => ?_⟩
  · have e : x ≠ c := fun e => by rw [e, updF_same] at hgx; cases hgx
    rw [updF_other e] at hgx ⊢
    have h1 := h.live x hx hgx
    rw [count_snoc_ne e] at h1
    have h2 := lds_gone (bl := bl) hn hP hg x
    rw [List.count_append]
    omega
  · have h2 := lds_gone (bl := bl) hn hP hg x
    rw [List.count_append]
    by_cases e : x = c
    · subst e; omega
    · rw [updF_other e] at hgx
      have h1 := h.dead x hx hgx
      rw [count_snoc_ne e] at h1
      omega
  · rcases List.mem_append.1 hx with h1 | h1
    · exact h.wait x (by simp [h1])
    · exact hb c hP x h1
/-- all Refs together -/
def tot (P : List Nat) (r : Nat → Int) : Nat := (P.map fun p => (r p).toNat).sum
theorem tot_less {P : List Nat} {r : Nat → Int} {c : Nat} {v : Int} (hn : P.Nodup) (hc : c ∈ P) (h : 1 ≤ r c) (hv : v = r c - 1) : tot P (updF r c v) < tot P r := by
  have := sum_upd (f := fun p => (r p).toNat) (g := fun p => (updF r c v p).toNat) hn hc (fun p _ hp => by simp only [updF_other hp])
  simp only [updF_same] at this
  unfold tot
  omega
theorem Inv.nil_live {P : List Nat} {bl : Nat → List Nat} {hd : Nat → Nat} {r : Nat → Int} {gn : Nat → Bool} (h : Inv P bl hd r gn []) {x : Nat} (hx : x ∈ P) (hg : gn x = false) : r x = hd x + lds P bl gn x := by
  have := h.live x hx hg
  simpa using this
/-- cells are let go, the last one that waits first -/
inductive Lets (bl : Nat → List Nat) : (Nat → Int) → (Nat → Bool) → List Nat → (Nat → Int) → (Nat → Bool) → Prop
  | nil (r : Nat → Int) (g : Nat → Bool) : Lets bl r g [] r g
  | less {r r' : Nat → Int} {g g' : Nat → Bool} {k : List Nat} {c : Nat} (h : ¬ r c - 1 = 0) (hh : Lets bl (updF r c (r c - 1)) g k r' g') : Lets bl r g (k ++ [c]) r' g'
  | gone {r r' : Nat → Int} {g g' : Nat → Bool} {k : List Nat} {c : Nat} (h : r c - 1 = 0) (hh : Lets bl (updF r c 0) (updF g c true) (k ++ bl c) r' g') : Lets bl r g (k ++ [c]) r' g'
theorem count_len {P k : List Nat} (hn : P.Nodup) (h : ∀ x ∈ k, x ∈ P) : (P.map fun x => k.count x).sum = k.length := by
  induction k with
  | nil =>
    clear hn h
    induction P with
    | nil => rfl
    | cons x P ih => rw [List.map_cons, List.sum_cons, ih]; rfl
  | cons y k ih =>
    have hy := h y List.mem_cons_self
    have h1 := ih fun x hx => h x (List.mem_cons_of_mem _ hx)
    have h2 := sum_upd (f := fun x => k.count x) (g := fun x => (y :: k).count x) hn hy (fun p _ hp => by simp [Ne.symm hp])
    simp only [List.count_cons_self] at h2
    rw [List.length_cons]
    omega
theorem sum_mono {P : List Nat} {f g : Nat → Nat} (h : ∀ p ∈ P, f p ≤ g p) : (P.map f).sum ≤ (P.map g).sum := by
  induction P with
  | nil => simp
  | cons x P ih =>
    simp only [List.map_cons, List.sum_cons]
    have := h x List.mem_cons_self
    have := ih fun p hp => h p (List.mem_cons_of_mem _ hp)
    omega
theorem Inv.len {P : List Nat} {bl : Nat → List Nat} {hd : Nat → Nat} {r : Nat → Int} {gn : Nat → Bool} {k : List Nat} (hn : P.Nodup) (h : Inv P bl hd r gn k) : k.length ≤ tot P r := by
  rw [← count_len hn h.wait]
  unfold tot
  refine sum_mono fun p hp => ?_
  cases e : gn p
  · have := h.live p hp e
    omega
  · have := (h.dead p hp e).2
    omega
theorem tot_le {P : List Nat} {r : Nat → Int} {m : Nat} (h : ∀ p ∈ P, r p ≤ m) : tot P r ≤ P.length * m := by
  unfold tot
  induction P with
  | nil => simp
  | cons x P ih =>
    simp only [List.map_cons, List.sum_cons, List.length_cons, Nat.succ_mul]
    have := h x List.mem_cons_self
    have := ih fun p hp => h p (List.mem_cons_of_mem _ hp)
    omega
theorem Lets.le {bl : Nat → List Nat} {r r' : Nat → Int} {g g' : Nat → Bool} {k : List Nat} (h : Lets bl r g k r' g') : ∀ x, r' x ≤ r x := by
  induction h with
  | nil r g => intro x; exact Int.le_refl _
  | less h hh ih =>
    rename_i r r' g g' k c
    intro x
    have := ih x
    by_cases e : x = c
    · subst e; rw [updF_same] at this; omega
    · rwa [updF_other e] at this
  | gone h hh ih =>
    rename_i r r' g g' k c
    intro x
    have := ih x
    by_cases e : x = c
    · subst e; rw [updF_same] at this; omega
    · rwa [updF_other e] at this
theorem tot_mono {P : List Nat} {r r' : Nat → Int} (h : ∀ x, r' x ≤ r x) : tot P r' ≤ tot P r := by
  unfold tot
  exact sum_mono fun p _ => by have := h p; omega
/-- what is there, or was: what is live behind was live, and has no Refs behind only if it had none -/
theorem Lets.keep {bl : Nat → List Nat} {r r' : Nat → Int} {g g' : Nat → Bool} {k : List Nat} (h : Lets bl r g k r' g') : ∀ x, g' x = false → g x = false ∧ (r' x = 0 → r x = 0) := by
  induction h with
  | nil r g => intro x hx; exact ⟨hx, fun h => h⟩
  | less h hh ih =>
    rename_i r r' g g' k c
    intro x hx
    obtain ⟨h1, h2⟩ := ih x hx
    refine ⟨h1, fun h0 => ?_⟩
    have := h2 h0
    by_cases e : x = c
    · subst e; rw [updF_same] at this; exact absurd this h
    · rwa [updF_other e] at this
  | gone h hh ih =>
    rename_i r r' g g' k c
    intro x hx
    obtain ⟨h1, h2⟩ := ih x hx
    by_cases e : x = c
    · subst e; rw [updF_same] at h1; cases h1
    · rw [updF_other e] at h1
      refine ⟨h1, fun h0 => ?_⟩
      have := h2 h0
      rwa [updF_other e] at this
/-- cells without Refs are let go, one behind the other -/
inductive Swp (bl : Nat → List Nat) : List Nat → (Nat → Int) → (Nat → Bool) → (Nat → Int) → (Nat → Bool) → Prop
  | nil (r : Nat → Int) (g : Nat → Bool) : Swp bl [] r g r g
  | skip {r r' : Nat → Int} {g g' : Nat → Bool} {k : List Nat} {c : Nat} (h : ¬ (r c = 0 ∧ g c = false)) (hh : Swp bl k r g r' g') : Swp bl (c :: k) r g r' g'
  | take {r r1 r' : Nat → Int} {g g1 g' : Nat → Bool} {k : List Nat} {c : Nat} (h : r c = 0) (hg : g c = false) (hl : Lets bl r (updF g c true) (bl c) r1 g1) (hh : Swp bl k r1 g1 r' g') : Swp bl (c :: k) r g r' g'
theorem Inv.sweep {P : List Nat} {bl : Nat → List Nat} {hd : Nat → Nat} {r : Nat → Int} {gn : Nat → Bool} {c : Nat} (hn : P.Nodup) (hb : ∀ p ∈ P, ∀ q ∈ bl p, q ∈ P) (h : Inv P bl hd r gn []) (hc : c ∈ P) (hg : gn c = false) (h0 : r c = 0) : Inv P bl hd r (updF gn c true) (bl c) := by
  have hr := h.nil_live hc hg
  have hz : hd c = 0 ∧ lds P bl gn c = 0 := by omega
  refine ⟨fun x hx hgx => ?_, fun x hx hgx => ?_, fun x hx => hb c hc x hx⟩
  · have e : x ≠ c := fun e => by rw [e, updF_same] at hgx; cases hgx
    rw [updF_other e] at hgx
    have h1 := h.nil_live hx hgx
    have h2 := lds_gone (bl := bl) hn hc hg x
    omega
  · have h2 := lds_gone (bl := bl) hn hc hg x
    by_cases e : x = c
    · subst e; omega
    · rw [updF_other e] at hgx
      have h1 := (h.dead x hx hgx).1
      omega
end Go.Proofs.YtlpejbbmemhloaaGreatDoor.Hp
