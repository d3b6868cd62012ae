/- Plain mathematics of items and changes by key: what a list is with changes done, what two lists are apart, what is under a prefix. No word of the program here. -/
import Derived.Test.YtcnggidihkcndaaGreatDoorItH
import Derived.Test.YtcnggidihkcndaaGreatDoorItD
namespace Go.Proofs.YtcnggidihkcndaaGreatDoor.It
set_option linter.unusedVariables false
set_option maxRecDepth 100000
open Ar Rg St
abbrev Ch := Sc.Ch
abbrev ckey (c : Ch) : List UInt8 := Sc.key c
section
variable {α : Type} {key : α → List UInt8}
def UpK (key : α → List UInt8) (D : List α) : Prop := D.Pairwise fun a b => lt (key a) (key b) = true
theorem up_ext {A B : List α} (hA : UpK key A) (hB : UpK key B) (h : ∀ x, x ∈ A ↔ x ∈ B) : A = B := by
  induction A generalizing B with
  | nil =>
    cases B with
    | nil => rfl
    | cons y B => exact absurd ((h y).2 List.mem_cons_self) (List.not_mem_nil)
  | cons x A ih =>
    cases B with
    | nil => exact absurd ((h x).1 List.mem_cons_self) (List.not_mem_nil)
    | cons y B =>
      obtain ⟨a1, a2⟩ := List.pairwise_cons.1 hA
      obtain ⟨b1, b2⟩ := List.pairwise_cons.1 hB
      have e : x = y := by
        rcases List.mem_cons.1 ((h x).1 List.mem_cons_self) with e | e
        · exact e
        · rcases List.mem_cons.1 ((h y).2 List.mem_cons_self) with e' | e'
          · exact e'.symm
          · have h1 := b1 x e
            have h2 := a1 y e'
            rw [O.asymm _ _ h1] at h2; cases h2
      subst e
      rw [ih a2 b2 fun z => ?_]
      constructor
      · intro hz
        rcases List.mem_cons.1 ((h z).1 (List.mem_cons_of_mem _ hz)) with e | e
        · subst e; have := a1 z hz; rw [O.irrefl] at this; cases this
        · exact e
      · intro hz
        rcases List.mem_cons.1 ((h z).2 (List.mem_cons_of_mem _ hz)) with e | e
        · subst e; have := b1 z hz; rw [O.irrefl] at this; cases this
        · exact e
theorem up_inj {D : List α} (h : UpK key D) {x y : α} (hx : x ∈ D) (hy : y ∈ D) (e : key x = key y) : x = y := by
  induction D with
  | nil => cases hx
  | cons z D ih =>
    obtain ⟨h1, h2⟩ := List.pairwise_cons.1 h
    rcases List.mem_cons.1 hx with e1 | h3 <;> rcases List.mem_cons.1 hy with e2 | h4
    · rw [e1, e2]
    · have := h1 y h4; rw [← e1, e, O.irrefl] at this; cases this
    · have := h1 x h3; rw [← e2, e, O.irrefl] at this; cases this
    · exact ih h2 h3 h4
theorem UpK.sub {A D : List α} (h : UpK key D) (hs : A.Sublist D) : UpK key A := List.Pairwise.sublist hs h
theorem UpK.cons {x : α} {D : List α} : UpK key (x :: D) ↔ (∀ y ∈ D, lt (key x) (key y) = true) ∧ UpK key D := List.pairwise_cons
theorem UpK.append {A B : List α} : UpK key (A ++ B) ↔ UpK key A ∧ UpK key B ∧ ∀ x ∈ A, ∀ y ∈ B, lt (key x) (key y) = true := List.pairwise_append
theorem UpK.nil : UpK key ([] : List α) := List.Pairwise.nil
theorem UpK.one (x : α) : UpK key [x] := List.pairwise_singleton _ _
end
theorem le_ne {a b : List UInt8} (h : lt a b = false) (hn : a ≠ b) : lt b a = true := by
  cases h2 : lt b a
  · exact absurd (O.tri _ _ h h2) hn
  · rfl
/-! ## a change done -/
def itm (c : Ch) : Itm := ⟨c.k, c.v⟩
theorem key_itm (c : Ch) : key (itm c) = ckey c := rfl
def donL (c : Ch) : Bool → List Itm → List Itm
  | put, [] => if put then [] else [itm c]
  | put, x :: r => (if !put && !lt (key x) (ckey c) then [itm c] else []) ++ ((if key x = ckey c then [] else [x]) ++ donL c (put || !lt (key x) (ckey c)) r)
def don (c : Ch) (D : List Itm) : List Itm := donL c (!c.h) D
theorem mem_donL (c : Ch) (x : Itm) : ∀ (D : List Itm) (put : Bool), x ∈ donL c put D ↔ (x ∈ D ∧ key x ≠ ckey c) ∨ (put = false ∧ x = itm c)
  | [], put => by cases put <;> simp [donL]
  | y :: r, put => by
    rw [donL, List.mem_append, List.mem_append, mem_donL c x r]
    by_cases h1 : lt (key y) (ckey c) = true
    · have h2 := O.ne h1
      rw [h1, if_neg h2]
      cases put <;> simp
      · constructor
        · rintro (rfl | h | h)
          · exact .inl ⟨.inl rfl, h2⟩
          · exact .inl ⟨.inr h.1, h.2⟩
          · exact .inr h
        · rintro (⟨rfl | h, h'⟩ | h)
          · exact .inl rfl
          · exact .inr (.inl ⟨h, h'⟩)
          · exact .inr (.inr h)
      · constructor
        · rintro (rfl | h)
          · exact ⟨.inl rfl, h2⟩
          · exact ⟨.inr h.1, h.2⟩
        · rintro ⟨rfl | h, h'⟩
          · exact .inl rfl
          · exact .inr ⟨h, h'⟩
    · have h1 : lt (key y) (ckey c) = false := by simpa using h1
      rw [h1]
      by_cases h2 : key y = ckey c
      · rw [if_pos h2]
        cases put <;> simp
        · constructor
          · rintro (h | h)
            · exact .inr h
            · exact .inl ⟨.inr h.1, h.2⟩
          · rintro (⟨rfl | h, h'⟩ | h)
            · exact absurd h2 h'
            · exact .inr ⟨h, h'⟩
            · exact .inl h
        · intro h e
          exact absurd (e ▸ h2) h
      · rw [if_neg h2]
        cases put <;> simp
        · constructor
          · rintro (h | rfl | h)
            · exact .inr h
            · exact .inl ⟨.inl rfl, h2⟩
            · exact .inl ⟨.inr h.1, h.2⟩
          · rintro (⟨rfl | h, h'⟩ | h)
            · exact .inr (.inl rfl)
            · exact .inr (.inr ⟨h, h'⟩)
            · exact .inl h
        · constructor
          · rintro (rfl | h)
            · exact ⟨.inl rfl, h2⟩
            · exact ⟨.inr h.1, h.2⟩
          · rintro ⟨rfl | h, h'⟩
            · exact .inl rfl
            · exact .inr ⟨h, h'⟩
theorem mem_don (c : Ch) (x : Itm) (D : List Itm) : x ∈ don c D ↔ (x ∈ D ∧ key x ≠ ckey c) ∨ (c.h = true ∧ x = itm c) := by
  unfold don
  rw [mem_donL]
  simp
theorem donL_true (c : Ch) : ∀ D : List Itm, donL c true D = D.filter fun x => decide (key x ≠ ckey c)
  | [] => rfl
  | x :: r => by
    rw [donL, Bool.true_or, donL_true c r, List.filter_cons]
    by_cases h : key x = ckey c <;> simp [h]
theorem up_donL (c : Ch) : ∀ (D : List Itm) (put : Bool), UpK key D → UpK key (donL c put D)
  | D, true, h => by rw [donL_true]; exact h.sub List.filter_sublist
  | [], false, _ => UpK.one _
  | x :: r, false, h => by
    obtain ⟨h1, h2⟩ := UpK.cons.1 h
    rw [donL]
    by_cases hl : lt (key x) (ckey c) = true
    · rw [hl, if_neg (O.ne hl)]
      refine UpK.cons.2 ⟨fun y hy => ?_, up_donL c r false h2⟩
      rcases (mem_donL c y r false).1 hy with ⟨h3, _⟩ | ⟨_, rfl⟩
      · exact h1 y h3
      · exact hl
    · have hl : lt (key x) (ckey c) = false := by simpa using hl
      rw [hl]
      have e : (if key x = ckey c then [] else [x]) ++ donL c (false || !false) r = (x :: r).filter fun x => decide (key x ≠ ckey c) := by
        rw [← donL_true, donL]; rfl
      rw [e]
      refine UpK.cons.2 ⟨fun y hy => ?_, h.sub List.filter_sublist⟩
      obtain ⟨hy, hne⟩ := List.mem_filter.1 hy
      have hne : key y ≠ ckey c := by simpa using hne
      refine le_ne ?_ hne
      show lt (key y) (ckey c) = false
      rcases List.mem_cons.1 hy with rfl | hy
      · exact hl
      · cases h3 : lt (key y) (ckey c)
        · rfl
        · have := O.trans _ _ _ (h1 y hy) h3
          rw [hl] at this; cases this
theorem up_don (c : Ch) {D : List Itm} (h : UpK key D) : UpK key (don c D) := up_donL c D _ h
/-! ## changes done -/
def app (D : List Itm) (C : List Ch) : List Itm := C.foldl (fun D c => don c D) D
theorem app_nil (D : List Itm) : app D [] = D := rfl
theorem app_cons (D : List Itm) (c : Ch) (C : List Ch) : app D (c :: C) = app (don c D) C := rfl
theorem app_snoc (D : List Itm) (C : List Ch) (c : Ch) : app D (C ++ [c]) = don c (app D C) := by unfold app; rw [List.foldl_append]; rfl
theorem app_append (D : List Itm) (C C' : List Ch) : app D (C ++ C') = app (app D C) C' := by unfold app; rw [List.foldl_append]
theorem up_app {D : List Itm} (C : List Ch) (h : UpK key D) : UpK key (app D C) := by
  induction C generalizing D with
  | nil => exact h
  | cons c C ih => exact ih (up_don c h)
/-- c is the last of its key in C -/
def Lst (C : List Ch) (c : Ch) : Prop := (C.filter fun d => ckey d = ckey c).getLast? = some c
theorem Lst.mem {C : List Ch} {c : Ch} (h : Lst C c) : c ∈ C := (List.mem_filter.1 (List.mem_of_getLast? h)).1
theorem Lst.snoc {C : List Ch} {c d : Ch} : Lst (C ++ [d]) c ↔ (d = c) ∨ (ckey d ≠ ckey c ∧ Lst C c) := by
  unfold Lst
  rw [List.filter_append]
  by_cases h : ckey d = ckey c
  · rw [List.filter_cons_of_pos (by simpa using h), List.filter_nil, List.getLast?_concat]
    simp [h]
  · rw [List.filter_cons_of_neg (by simpa using h), List.filter_nil, List.append_nil]
    constructor
    · intro hl; exact .inr ⟨h, hl⟩
    · rintro (rfl | hl)
      · exact absurd rfl h
      · exact hl.2
theorem mem_app (D : List Itm) (x : Itm) (C : List Ch) : x ∈ app D C ↔ (x ∈ D ∧ ∀ c ∈ C, ckey c ≠ key x) ∨ ∃ c, Lst C c ∧ c.h = true ∧ x = itm c := by
  suffices H : ∀ R : List Ch, x ∈ app D R.reverse ↔ (x ∈ D ∧ ∀ c ∈ R.reverse, ckey c ≠ key x) ∨ ∃ c, Lst R.reverse c ∧ c.h = true ∧ x = itm c by
    have := H C.reverse
    rwa [List.reverse_reverse] at this
  intro R
  induction R with
  | nil => simp [app, Lst]
  | cons d R ih =>
    rw [List.reverse_cons, app_snoc, mem_don, ih]
    constructor
    · rintro (⟨⟨h1, h2⟩ | ⟨c, h1, h2, rfl⟩, h3⟩ | ⟨h1, rfl⟩)
      · refine .inl ⟨h1, fun c hc => ?_⟩
        rcases List.mem_append.1 hc with hc | hc
        · exact h2 c hc
        · simp at hc; subst hc; exact fun e => h3 e.symm
      · exact .inr ⟨c, Lst.snoc.2 (.inr ⟨fun e => h3 e.symm, h1⟩), h2, rfl⟩
      · exact .inr ⟨d, Lst.snoc.2 (.inl rfl), h1, rfl⟩
    · rintro (⟨h1, h2⟩ | ⟨c, h1, h2, rfl⟩)
      · exact .inl ⟨.inl ⟨h1, fun c hc => h2 c (List.mem_append_left _ hc)⟩, fun e => h2 d (by simp) e.symm⟩
      · rcases Lst.snoc.1 h1 with rfl | ⟨h3, h4⟩
        · exact .inr ⟨h2, rfl⟩
        · exact .inl ⟨.inr ⟨c, h4, h2, rfl⟩, fun e => h3 e.symm⟩
theorem up_lst {C : List Ch} (h : UpK Sc.key C) (c : Ch) : Lst C c ↔ c ∈ C := by
  constructor
  · exact Lst.mem
  · intro hc
    unfold Lst
    have e : C.filter (fun d => ckey d = ckey c) = [c] := by
      refine up_ext (key := Sc.key) (h.sub List.filter_sublist) (UpK.one c) fun d => ?_
      rw [List.mem_filter, List.mem_singleton]
      constructor
      · rintro ⟨h1, h2⟩; exact up_inj h h1 hc (by simpa using h2)
      · rintro rfl; exact ⟨hc, by simp⟩
    rw [e]; rfl
theorem app_same {D : List Itm} {C L : List Ch} (hD : UpK key D) (h : ∀ c, Lst L c ↔ Lst C c) : app D L = app D C := by
  refine up_ext (up_app _ hD) (up_app _ hD) fun x => ?_
  have hk : ∀ (C L : List Ch), (∀ c, Lst L c ↔ Lst C c) → (∀ c ∈ C, ckey c ≠ key x) → ∀ c ∈ L, ckey c ≠ key x := by
    intro C L h hC c hc e
    have hne : (L.filter fun d => ckey d = ckey c) ≠ [] := by
      intro h0
      have := List.filter_eq_nil_iff.1 h0 c hc
      simp at this
    obtain ⟨d, hd⟩ : ∃ d, (L.filter fun d => ckey d = ckey c).getLast? = some d := by
      cases h1 : (L.filter fun d => ckey d = ckey c).getLast? with
      | none => exact absurd (List.getLast?_eq_none_iff.1 h1) hne
      | some d => exact ⟨d, rfl⟩
    have hdk : ckey d = ckey c := by simpa using (List.mem_filter.1 (List.mem_of_getLast? hd)).2
    have hl : Lst L d := by unfold Lst; rw [hdk]; exact hd
    exact hC d ((h d).1 hl).mem (hdk.trans e)
  rw [mem_app, mem_app]
  constructor
  · rintro (⟨h1, h2⟩ | ⟨c, h1, h2⟩)
    · exact .inl ⟨h1, hk L C (fun c => (h c).symm) h2⟩
    · exact .inr ⟨c, (h c).1 h1, h2⟩
  · rintro (⟨h1, h2⟩ | ⟨c, h1, h2⟩)
    · exact .inl ⟨h1, hk C L h h2⟩
    · exact .inr ⟨c, (h c).2 h1, h2⟩
/-- the program's way: what is ahead of the change's place, the change, the rest -/
theorem app_step {D : List Itm} {c : Ch} {L : List Ch} {p : Nat} (hD : UpK key D) (hL : UpK Sc.key (c :: L)) (hp : At D c.k p) :
    app D (c :: L) = (D.take p ++ (if c.h then [itm c] else [])) ++ app (D.drop (p + if found D c.k p then 1 else 0)) L := by
  obtain ⟨hp1, hp2, hp3⟩ := hp
  obtain ⟨hl1, hl2⟩ := UpK.cons.1 hL
  have hk : c.k.data.toList = ckey c := rfl
  rw [hk] at hp2 hp3
  have hdrop : ∀ x ∈ D.drop (p + if found D c.k p then 1 else 0), x ∈ D.drop p ∧ lt (ckey c) (key x) = true := by
    intro x hx
    rcases Nat.lt_or_ge p D.length with hlt | hge
    · have hz : D[p]? = some (D[p]'hlt) := List.getElem?_eq_getElem _
      rw [found_at hz] at hx
      have e := drop_at hz
      have hu : UpK key (D.drop p) := hD.sub (List.drop_sublist _ _)
      rw [e] at hu
      have hge := hp3 D[p] (by rw [e]; exact List.mem_cons_self)
      by_cases hf : key D[p] = c.k.data.toList
      · rw [decide_eq_true hf, if_pos rfl] at hx
        refine ⟨by rw [e]; exact List.mem_cons_of_mem _ hx, ?_⟩
        have := (UpK.cons.1 hu).1 x hx
        rw [hf] at this; exact this
      · rw [decide_eq_false hf, if_neg (by simp), Nat.add_zero] at hx
        refine ⟨hx, ?_⟩
        have h0 := le_ne hge hf
        rw [e] at hx
        rcases List.mem_cons.1 hx with rfl | hx
        · exact h0
        · exact O.trans _ _ _ h0 ((UpK.cons.1 hu).1 x hx)
    · rw [List.drop_eq_nil_of_le (by omega)] at hx; cases hx
  have hdrop2 : ∀ x ∈ D.drop p, key x ≠ ckey c → x ∈ D.drop (p + if found D c.k p then 1 else 0) := by
    intro x hx hne
    rcases Nat.lt_or_ge p D.length with hlt | hge
    · have hz : D[p]? = some (D[p]'hlt) := List.getElem?_eq_getElem _
      rw [found_at hz]
      by_cases hf : key D[p] = c.k.data.toList
      · rw [decide_eq_true hf, if_pos rfl]
        rw [drop_at hz] at hx
        rcases List.mem_cons.1 hx with rfl | hx
        · exact absurd hf hne
        · exact hx
      · rw [decide_eq_false hf, if_neg (by simp), Nat.add_zero]; exact hx
    · rw [List.drop_eq_nil_of_le (by omega)] at hx; cases hx
  have htail : ∀ x ∈ app (D.drop (p + if found D c.k p then 1 else 0)) L, lt (ckey c) (key x) = true := by
    intro x hx
    rcases (mem_app _ x L).1 hx with ⟨h1, _⟩ | ⟨d, h1, _, rfl⟩
    · exact (hdrop x h1).2
    · exact hl1 d h1.mem
  have hhead : ∀ x ∈ D.take p ++ (if c.h then [itm c] else []), x ∈ D.take p ∨ (c.h = true ∧ x = itm c) := by
    intro x hx
    rcases List.mem_append.1 hx with hx | hx
    · exact .inl hx
    · by_cases h : c.h = true
      · rw [if_pos h] at hx; exact .inr ⟨h, by simpa using hx⟩
      · rw [if_neg h] at hx; cases hx
  refine up_ext (up_app _ hD) ?_ fun x => ?_
  · refine UpK.append.2 ⟨UpK.append.2 ⟨hD.sub (List.take_sublist _ _), ?_, ?_⟩, up_app _ (hD.sub (List.drop_sublist _ _)), ?_⟩
    · split
      · exact UpK.one _
      · exact UpK.nil
    · intro x hx y hy
      by_cases h : c.h = true
      · rw [if_pos h] at hy
        simp at hy; subst hy
        exact hp2 x hx
      · rw [if_neg h] at hy; cases hy
    · intro x hx y hy
      rcases hhead x hx with h | ⟨_, rfl⟩
      · exact O.trans _ _ _ (hp2 x h) (htail y hy)
      · exact htail y hy
  · rw [mem_app, List.mem_append]
    constructor
    · rintro (⟨h1, h2⟩ | ⟨d, h1, h2, rfl⟩)
      · rw [← List.take_append_drop p D] at h1
        rcases List.mem_append.1 h1 with h1 | h1
        · exact .inl (List.mem_append_left _ h1)
        · refine .inr ((mem_app _ x L).2 (.inl ⟨hdrop2 x h1 (fun e => h2 c List.mem_cons_self e.symm), fun d hd => h2 d (List.mem_cons_of_mem _ hd)⟩))
      · have hm := (up_lst hL d).1 h1
        rcases List.mem_cons.1 hm with rfl | hm
        · exact .inl (List.mem_append_right _ (by rw [if_pos h2]; simp))
        · exact .inr ((mem_app _ _ L).2 (.inr ⟨d, (up_lst hl2 d).2 hm, h2, rfl⟩))
    · rintro (h1 | h1)
      · rcases hhead x h1 with h | ⟨h, rfl⟩
        · refine .inl ⟨List.mem_of_mem_take h, fun d hd e => ?_⟩
          have := hp2 x h
          rcases List.mem_cons.1 hd with rfl | hd
          · rw [e, O.irrefl] at this; cases this
          · have := O.trans _ _ _ this (hl1 d hd)
            rw [show Sc.key d = key x from e, O.irrefl] at this; cases this
        · exact .inr ⟨c, (up_lst hL c).2 List.mem_cons_self, h, rfl⟩
      · rcases (mem_app _ x L).1 h1 with ⟨h2, h3⟩ | ⟨d, h2, h3, rfl⟩
        · obtain ⟨h4, h5⟩ := hdrop x h2
          refine .inl ⟨List.mem_of_mem_drop h4, fun d hd => ?_⟩
          rcases List.mem_cons.1 hd with rfl | hd
          · exact O.ne h5
          · exact h3 d hd
        · exact .inr ⟨d, (up_lst hL d).2 (List.mem_cons_of_mem _ h2.mem), h3, rfl⟩
/-! ## of each key the last -/
def lasts : List Ch → List Ch
  | [] => []
  | c :: r => (match r with | [] => [c] | d :: _ => if ckey d = ckey c then [] else [c]) ++ lasts r
theorem lasts_mem : ∀ (S : List Ch) {c : Ch}, c ∈ lasts S → c ∈ S
  | [], c, h => by cases h
  | [a], c, h => by simpa [lasts] using h
  | a :: b :: r, c, h => by
    rw [lasts] at h
    rcases List.mem_append.1 h with h | h
    · split at h
      · cases h
      · simp at h; subst h; exact List.mem_cons_self
    · exact List.mem_cons_of_mem _ (lasts_mem (b :: r) h)
theorem lasts_spec : ∀ S : List Ch, Srt Sc.key lt S → UpK Sc.key (lasts S) ∧ ∀ c, c ∈ lasts S ↔ Lst S c
  | [], _ => ⟨UpK.nil, fun c => by simp [lasts, Lst]⟩
  | [a], _ => ⟨UpK.one a, fun c => by
      have : Lst [a] c ↔ _ := Lst.snoc (C := []) (d := a) (c := c)
      rw [this]
      constructor
      · intro h; left; have h : c = a := by simpa [lasts] using h
        exact h.symm
      · rintro (rfl | ⟨_, h⟩)
        · simp [lasts]
        · exact absurd h.mem List.not_mem_nil⟩
  | a :: b :: r, h => by
    obtain ⟨h1, h2⟩ := List.pairwise_cons.1 h
    obtain ⟨i1, i2⟩ := lasts_spec (b :: r) h2
    have hL : ∀ c, Lst (a :: b :: r) c ↔ Lst (b :: r) c ∨ (c = a ∧ ∀ d ∈ b :: r, ckey d ≠ ckey a) := by
      intro c
      unfold Lst
      by_cases hk : ckey a = ckey c
      · rw [List.filter_cons_of_pos (by simpa using hk)]
        by_cases hn : (b :: r).filter (fun d => ckey d = ckey c) = []
        · rw [hn]
          constructor
          · intro e
            simp at e
            subst e
            refine .inr ⟨rfl, fun d hd e => ?_⟩
            have := List.filter_eq_nil_iff.1 hn d hd
            simp at this; exact this e
          · rintro (e | ⟨rfl, _⟩)
            · cases e
            · rfl
        · rw [List.getLast?_cons_of_ne_nil hn]
          constructor
          · exact .inl
          · rintro (e | ⟨rfl, e⟩)
            · exact e
            · exact absurd (filter_none (key := Sc.key) (k := ckey c) e) hn
      · rw [List.filter_cons_of_neg (by simpa using hk)]
        constructor
        · exact .inl
        · rintro (e | ⟨rfl, _⟩)
          · exact e
          · exact absurd rfl hk
    rw [lasts]
    by_cases hab : ckey b = ckey a
    · rw [if_pos hab, List.nil_append]
      refine ⟨i1, fun c => ?_⟩
      rw [i2, hL]
      constructor
      · exact .inl
      · rintro (e | ⟨_, e⟩)
        · exact e
        · exact absurd hab (e b List.mem_cons_self)
    · rw [if_neg hab]
      have hlt : ∀ d ∈ b :: r, lt (ckey a) (ckey d) = true := by
        intro d hd
        have hb := h1 b List.mem_cons_self
        have hba : lt (ckey a) (ckey b) = true := le_ne hb hab
        rcases List.mem_cons.1 hd with rfl | hd
        · exact hba
        · exact O.lt_le hba ((List.pairwise_cons.1 h2).1 d hd)
      refine ⟨UpK.cons.2 ⟨fun d hd => hlt d (lasts_mem _ hd), i1⟩, fun c => ?_⟩
      rw [hL, List.mem_append, i2]
      constructor
      · rintro (e | e)
        · simp at e; subst e
          exact .inr ⟨rfl, fun d hd e => by have := O.ne (hlt d hd); exact this e.symm⟩
        · exact .inl e
      · rintro (e | ⟨rfl, _⟩)
        · exact .inr e
        · exact .inl (by simp)
theorem Lst.same {C C' : List Ch} (h : Sm Sc.key C C') (c : Ch) : Lst C c ↔ Lst C' c := by unfold Lst; rw [h (ckey c)]
theorem app_lasts {D : List Itm} {C S : List Ch} (hD : UpK key D) (hs : Srt Sc.key lt S) (hm : Sm Sc.key C S) : app D (lasts S) = app D C :=
  app_same hD fun c => by rw [up_lst (lasts_spec S hs).1, (lasts_spec S hs).2, Lst.same hm]
/-! ## right lists -/
theorem rt_of : ∀ {D : List Itm}, UpK key D → (∀ x ∈ D, okI x = true) → rt D = true := by
  have H : ∀ (D : List Itm) (y : Itm), UpK key (y :: D) → (∀ x ∈ D, okI x = true) → rtFrom (some y) D = true := by
    intro D
    induction D with
    | nil => intro y _ _; rfl
    | cons x r ih =>
      intro y h1 h2
      obtain ⟨h3, h4⟩ := UpK.cons.1 h1
      show (okI x && (By.bl (key y) (key x) && rtFrom (some x) r)) = true
      rw [h2 x List.mem_cons_self, ih x h4 fun z hz => h2 z (List.mem_cons_of_mem _ hz)]
      have := h3 x List.mem_cons_self
      simpa using this
  intro D h1 h2
  cases D with
  | nil => rfl
  | cons x r =>
    show (okI x && rtFrom (some x) r) = true
    rw [h2 x List.mem_cons_self, H r x h1 fun z hz => h2 z (List.mem_cons_of_mem _ hz)]
    rfl
theorem rt_iff {D : List Itm} : rt D = true ↔ UpK key D ∧ ∀ x ∈ D, okI x = true := ⟨rt_up, fun h => rt_of h.1 h.2⟩
theorem rc_iff {C : List Ch} : rc C = true ↔ ∀ c ∈ C, okC c = true := by unfold rc; rw [List.all_eq_true]
theorem okC_itm {c : Ch} (h : okC c = true) : okI (itm c) = true := by
  simp only [okC, Bool.and_eq_true] at h
  simp only [okI, itm, Bool.and_eq_true]
  exact ⟨h.1, h.2.1⟩
theorem rt_app {D : List Itm} {C : List Ch} (hD : rt D = true) (hC : rc C = true) : rt (app D C) = true := by
  obtain ⟨h1, h2⟩ := rt_iff.1 hD
  refine rt_of (up_app _ h1) fun x hx => ?_
  rcases (mem_app _ x C).1 hx with ⟨h3, _⟩ | ⟨c, h3, _, rfl⟩
  · exact h2 x h3
  · exact okC_itm (rc_iff.1 hC c h3.mem)
theorem app_twice {D : List Itm} (hD : UpK key D) (c : Ch) : app (app D [c]) [c] = app D [c] := by
  show don c (don c D) = don c D
  refine up_ext (up_don c (up_don c hD)) (up_don c hD) fun x => ?_
  rw [mem_don, mem_don]
  constructor
  · rintro (⟨h | h, h'⟩ | h)
    · exact .inl h
    · exact .inr h
    · exact .inr h
  · rintro (h | h)
    · exact .inl ⟨.inl h, h.2⟩
    · exact .inr h
/-! ## what a list has by a key -/
theorem get_iff {D : List Itm} (h : UpK key D) (k v : ByteArray) : get D k = some v ↔ (⟨k, v⟩ : Itm) ∈ D := by
  unfold get
  have hk : ∀ x : Itm, key x = k.data.toList → x.k = k := by
    intro x e
    have := Array.toList_inj.1 e
    exact ByteArray.ext this
  constructor
  · intro e
    obtain ⟨x, hx, rfl⟩ := Option.map_eq_some_iff.1 e
    have h1 := List.mem_of_find?_eq_some hx
    have h2 : key x = k.data.toList := by simpa using List.find?_some hx
    have h3 := hk x h2
    obtain ⟨xk, xv⟩ := x
    simp only at h3
    subst h3
    exact h1
  · intro hm
    cases hf : D.find? (fun x => decide (key x = k.data.toList)) with
    | none =>
      have := List.find?_eq_none.1 hf _ hm
      simp [key] at this
    | some y =>
      have h1 := List.mem_of_find?_eq_some hf
      have h2 : key y = k.data.toList := by simpa using List.find?_some hf
      have : y = ⟨k, v⟩ := up_inj h h1 hm h2
      subst this; rfl
/-- what is there by a key behind changes -/
def lastV (k : ByteArray) : Option ByteArray → List Ch → Option ByteArray
  | o, [] => o
  | o, c :: C => lastV k (if ckey c = k.data.toList then (if c.h then some c.v else none) else o) C
theorem get_don {D : List Itm} (h : UpK key D) (k : ByteArray) (c : Ch) : get (don c D) k = if ckey c = k.data.toList then (if c.h then some c.v else none) else get D k := by
  refine Option.ext fun v => ?_
  rw [get_iff (up_don c h), mem_don]
  have hk : ckey c = k.data.toList ↔ c.k = k := by
    constructor
    · intro e; exact ByteArray.ext (Array.toList_inj.1 e)
    · rintro rfl; rfl
  by_cases hc : ckey c = k.data.toList
  · rw [if_pos hc]
    have hc' := hk.1 hc
    have e1 : key (⟨k, v⟩ : Itm) = ckey c := hc.symm
    rw [e1]
    by_cases hh : c.h = true
    · rw [if_pos hh]
      constructor
      · rintro (⟨_, h'⟩ | ⟨_, e⟩)
        · exact absurd rfl h'
        · have : v = c.v := congrArg Itm.v e
          rw [this]
      · intro e
        cases e
        exact .inr ⟨hh, by rw [← hc']; rfl⟩
    · rw [if_neg hh]
      constructor
      · rintro (⟨_, h'⟩ | ⟨h', _⟩)
        · exact absurd rfl h'
        · exact absurd h' hh
      · intro e; cases e
  · rw [if_neg hc, get_iff h]
    constructor
    · rintro (⟨h', _⟩ | ⟨_, e⟩)
      · exact h'
      · exact absurd (hk.2 (congrArg Itm.k e).symm) hc
    · intro h'
      exact .inl ⟨h', fun e => hc e.symm⟩
theorem get_app (k : ByteArray) : ∀ (C : List Ch) {D : List Itm}, UpK key D → get (app D C) k = lastV k (get D k) C
  | [], D, _ => rfl
  | c :: C, D, h => by
    rw [app_cons, get_app k C (up_don c h), get_don h, lastV]
end Go.Proofs.YtcnggidihkcndaaGreatDoor.It
