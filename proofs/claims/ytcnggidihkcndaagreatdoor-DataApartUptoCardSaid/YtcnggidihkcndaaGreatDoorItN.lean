/- Plain mathematics of items: what two lists are apart, what is under a prefix. No word of the program here. -/
import Derived.Test.YtcnggidihkcndaaGreatDoorItM
namespace Go.Proofs.YtcnggidihkcndaaGreatDoor.It
set_option linter.unusedVariables false
set_option maxRecDepth 100000
open Ar Rg St
/-! ## apart -/
def gone (x : Itm) : Ch := ⟨x.k, false, ByteArray.empty⟩
def there (x : Itm) : Ch := ⟨x.k, true, x.v⟩
def dif : List Itm → List Itm → List Ch
  | [], [] => []
  | a :: A, [] => gone a :: dif A []
  | [], b :: B => there b :: dif [] B
  | a :: A, b :: B =>
    if lt (key a) (key b) then gone a :: dif A (b :: B)
    else if lt (key b) (key a) then there b :: dif (a :: A) B
    else (if a.v.data.toList = b.v.data.toList then [] else [there b]) ++ dif A B
termination_by A B => A.length + B.length
theorem dif_nil (A : List Itm) : dif [] [] = [] := by rw [dif]
theorem dif_left (a : Itm) (A : List Itm) : dif (a :: A) [] = gone a :: dif A [] := by rw [dif]
theorem dif_right (b : Itm) (B : List Itm) : dif [] (b :: B) = there b :: dif [] B := by rw [dif]
theorem dif_lt {a b : Itm} (A B : List Itm) (h : lt (key a) (key b) = true) : dif (a :: A) (b :: B) = gone a :: dif A (b :: B) := by rw [dif, if_pos h]
theorem dif_gt {a b : Itm} (A B : List Itm) (h : lt (key b) (key a) = true) : dif (a :: A) (b :: B) = there b :: dif (a :: A) B := by
  rw [dif, if_neg (by rw [O.asymm _ _ h]; simp), if_pos h]
theorem dif_same {a b : Itm} (A B : List Itm) (h : key a = key b) (hv : a.v.data.toList = b.v.data.toList) : dif (a :: A) (b :: B) = dif A B := by
  rw [dif, h, O.irrefl, if_neg (by simp), if_neg (by simp), if_pos hv]; rfl
theorem dif_other {a b : Itm} (A B : List Itm) (h : key a = key b) (hv : a.v.data.toList ≠ b.v.data.toList) : dif (a :: A) (b :: B) = there b :: dif A B := by
  rw [dif, h, O.irrefl, if_neg (by simp), if_neg (by simp), if_neg hv]; rfl
theorem dif_len (A B : List Itm) : (dif A B).length ≤ A.length + B.length := by
  fun_induction dif A B with
  | case1 => simp
  | case2 a A ih => simp at ih ⊢; omega
  | case3 b B ih => simp at ih ⊢; omega
  | case4 a A b B h ih => simp at ih ⊢; omega
  | case5 a A b B h h' ih => simp at ih ⊢; omega
  | case6 a A b B h h' ih =>
    rw [List.length_append]
    have : (if a.v.data.toList = b.v.data.toList then [] else [there b]).length ≤ 1 := by split <;> simp
    simp only [List.length_cons]; omega
theorem itm_ext {a b : Itm} (h : key a = key b) (hv : a.v.data.toList = b.v.data.toList) : a = b := by
  obtain ⟨ak, av⟩ := a
  obtain ⟨bk, bv⟩ := b
  have h1 : ak = bk := ByteArray.ext (Array.toList_inj.1 h)
  have h2 : av = bv := ByteArray.ext (Array.toList_inj.1 hv)
  rw [h1, h2]
def InDif (A B : List Itm) (c : Ch) : Prop := (∃ x, x ∈ A ∧ c = gone x ∧ ∀ y ∈ B, key y ≠ key x) ∨ ∃ y, y ∈ B ∧ c = there y ∧ y ∉ A
theorem mem_dif (c : Ch) (A B : List Itm) (hA : UpK key A) (hB : UpK key B) : c ∈ dif A B ↔ InDif A B c := by
  unfold InDif
  fun_induction dif A B with
  | case1 => simp
  | case2 a A ih =>
    rw [List.mem_cons, ih (UpK.cons.1 hA).2 hB]
    simp
  | case3 b B ih =>
    rw [List.mem_cons, ih hA (UpK.cons.1 hB).2]
    simp
  | case4 a A b B h ih =>
    obtain ⟨a1, a2⟩ := UpK.cons.1 hA
    obtain ⟨b1, b2⟩ := UpK.cons.1 hB
    rw [List.mem_cons, ih a2 hB]
    have hlt : ∀ y ∈ b :: B, lt (key a) (key y) = true := by
      intro y hy
      rcases List.mem_cons.1 hy with rfl | hy
      · exact h
      · exact O.trans _ _ _ h (b1 y hy)
    constructor
    · rintro (rfl | ⟨x, h1, h2, h3⟩ | ⟨y, h1, h2, h3⟩)
      · exact .inl ⟨a, List.mem_cons_self, rfl, fun y hy e => O.ne (hlt y hy) e.symm⟩
      · exact .inl ⟨x, List.mem_cons_of_mem _ h1, h2, h3⟩
      · refine .inr ⟨y, h1, h2, fun hm => ?_⟩
        rcases List.mem_cons.1 hm with rfl | hm
        · exact O.ne (hlt y h1) rfl
        · exact h3 hm
    · rintro (⟨x, h1, h2, h3⟩ | ⟨y, h1, h2, h3⟩)
      · rcases List.mem_cons.1 h1 with rfl | h1
        · exact .inl h2
        · exact .inr (.inl ⟨x, h1, h2, h3⟩)
      · exact .inr (.inr ⟨y, h1, h2, fun hm => h3 (List.mem_cons_of_mem _ hm)⟩)
  | case5 a A b B h h' ih =>
    obtain ⟨a1, a2⟩ := UpK.cons.1 hA
    obtain ⟨b1, b2⟩ := UpK.cons.1 hB
    rw [List.mem_cons, ih hA b2]
    have hlt : ∀ x ∈ a :: A, lt (key b) (key x) = true := by
      intro y hy
      rcases List.mem_cons.1 hy with rfl | hy
      · exact h'
      · exact O.trans _ _ _ h' (a1 y hy)
    constructor
    · rintro (rfl | ⟨x, h1, h2, h3⟩ | ⟨y, h1, h2, h3⟩)
      · exact .inr ⟨b, List.mem_cons_self, rfl, fun hm => O.ne (hlt b hm) rfl⟩
      · refine .inl ⟨x, h1, h2, fun y hy => ?_⟩
        rcases List.mem_cons.1 hy with rfl | hy
        · exact O.ne (hlt x h1)
        · exact h3 y hy
      · exact .inr ⟨y, List.mem_cons_of_mem _ h1, h2, h3⟩
    · rintro (⟨x, h1, h2, h3⟩ | ⟨y, h1, h2, h3⟩)
      · exact .inr (.inl ⟨x, h1, h2, fun y hy => h3 y (List.mem_cons_of_mem _ hy)⟩)
      · rcases List.mem_cons.1 h1 with rfl | h1
        · exact .inl h2
        · exact .inr (.inr ⟨y, h1, h2, h3⟩)
  | case6 a A b B h h' ih =>
    obtain ⟨a1, a2⟩ := UpK.cons.1 hA
    obtain ⟨b1, b2⟩ := UpK.cons.1 hB
    have hk : key a = key b := O.tri _ _ (by simpa using h) (by simpa using h')
    rw [List.mem_append, ih a2 b2]
    have hbA : b ∉ A := fun hm => O.ne (a1 b hm) hk
    have hx : ∀ x ∈ A, ∀ y, y = b → key y ≠ key x := by
      rintro x hx y rfl e
      exact O.ne (a1 x hx) (hk.trans e)
    have hy : ∀ y ∈ B, y ≠ a := by
      rintro y hy rfl
      exact O.ne (b1 y hy) hk.symm
    constructor
    · rintro (h0 | ⟨x, h1, h2, h3⟩ | ⟨y, h1, h2, h3⟩)
      · split at h0
        · cases h0
        · rename_i hv
          simp at h0; subst h0
          refine .inr ⟨b, List.mem_cons_self, rfl, fun hm => ?_⟩
          rcases List.mem_cons.1 hm with e | hm
          · exact hv (by rw [e])
          · exact hbA hm
      · refine .inl ⟨x, List.mem_cons_of_mem _ h1, h2, fun y hy => ?_⟩
        rcases List.mem_cons.1 hy with e | hy
        · exact hx x h1 y e
        · exact h3 y hy
      · refine .inr ⟨y, List.mem_cons_of_mem _ h1, h2, fun hm => ?_⟩
        rcases List.mem_cons.1 hm with e | hm
        · exact hy y h1 e
        · exact h3 hm
    · rintro (⟨x, h1, h2, h3⟩ | ⟨y, h1, h2, h3⟩)
      · rcases List.mem_cons.1 h1 with e | h1
        · exact absurd (hk.symm.trans (by rw [e])) (h3 b List.mem_cons_self)
        · exact .inr (.inl ⟨x, h1, h2, fun y hy => h3 y (List.mem_cons_of_mem _ hy)⟩)
      · rcases List.mem_cons.1 h1 with e | h1
        · subst e
          left
          have hv : a.v.data.toList ≠ y.v.data.toList := by
            intro hv
            exact h3 (by rw [itm_ext hk hv]; exact List.mem_cons_self)
          rw [if_neg hv]
          simpa using h2
        · exact .inr (.inr ⟨y, h1, h2, fun hm => h3 (List.mem_cons_of_mem _ hm)⟩)
theorem InDif.key {A B : List Itm} {c : Ch} (h : InDif A B c) : (∃ x ∈ A, ckey c = key x) ∨ ∃ y ∈ B, ckey c = key y := by
  rcases h with ⟨x, h1, rfl, _⟩ | ⟨y, h1, rfl, _⟩
  · exact .inl ⟨x, h1, rfl⟩
  · exact .inr ⟨y, h1, rfl⟩
theorem up_dif (A B : List Itm) (hA : UpK key A) (hB : UpK key B) : UpK Sc.key (dif A B) := by
  have hm := fun c A B hA hB => mem_dif c A B hA hB
  fun_induction dif A B with
  | case1 => exact UpK.nil
  | case2 a A ih =>
    obtain ⟨a1, a2⟩ := UpK.cons.1 hA
    refine UpK.cons.2 ⟨fun c hc => ?_, ih a2 hB⟩
    rcases ((hm c A [] a2 hB).1 hc).key with ⟨x, h1, h2⟩ | ⟨y, h1, h2⟩
    · rw [show Sc.key c = key x from h2]; exact a1 x h1
    · cases h1
  | case3 b B ih =>
    obtain ⟨b1, b2⟩ := UpK.cons.1 hB
    refine UpK.cons.2 ⟨fun c hc => ?_, ih hA b2⟩
    rcases ((hm c [] B hA b2).1 hc).key with ⟨x, h1, h2⟩ | ⟨y, h1, h2⟩
    · cases h1
    · rw [show Sc.key c = key y from h2]; exact b1 y h1
  | case4 a A b B h ih =>
    obtain ⟨a1, a2⟩ := UpK.cons.1 hA
    obtain ⟨b1, b2⟩ := UpK.cons.1 hB
    refine UpK.cons.2 ⟨fun c hc => ?_, ih a2 hB⟩
    rcases ((hm c A (b :: B) a2 hB).1 hc).key with ⟨x, h1, h2⟩ | ⟨y, h1, h2⟩
    · rw [show Sc.key c = key x from h2]; exact a1 x h1
    · rw [show Sc.key c = key y from h2]
      rcases List.mem_cons.1 h1 with rfl | h1
      · exact h
      · exact O.trans _ _ _ h (b1 y h1)
  | case5 a A b B h h' ih =>
    obtain ⟨a1, a2⟩ := UpK.cons.1 hA
    obtain ⟨b1, b2⟩ := UpK.cons.1 hB
    refine UpK.cons.2 ⟨fun c hc => ?_, ih hA b2⟩
    rcases ((hm c (a :: A) B hA b2).1 hc).key with ⟨x, h1, h2⟩ | ⟨y, h1, h2⟩
    · rw [show Sc.key c = key x from h2]
      rcases List.mem_cons.1 h1 with rfl | h1
      · exact h'
      · exact O.trans _ _ _ h' (a1 x h1)
    · rw [show Sc.key c = key y from h2]; exact b1 y h1
  | case6 a A b B h h' ih =>
    obtain ⟨a1, a2⟩ := UpK.cons.1 hA
    obtain ⟨b1, b2⟩ := UpK.cons.1 hB
    have hk : key a = key b := O.tri _ _ (by simpa using h) (by simpa using h')
    refine UpK.append.2 ⟨by split; exact UpK.nil; exact UpK.one _, ih a2 b2, ?_⟩
    intro x hx c hc
    have hxk : Sc.key x = key b := by
      split at hx
      · cases hx
      · simp at hx; subst hx; rfl
    rw [hxk]
    rcases ((hm c A B a2 b2).1 hc).key with ⟨z, h1, h2⟩ | ⟨y, h1, h2⟩
    · rw [show Sc.key c = key z from h2, ← hk]; exact a1 z h1
    · rw [show Sc.key c = key y from h2]; exact b1 y h1
theorem app_dif {A B : List Itm} (hA : UpK key A) (hB : UpK key B) : app A (dif A B) = B := by
  refine up_ext (up_app _ hA) hB fun x => ?_
  rw [mem_app]
  constructor
  · rintro (⟨h1, h2⟩ | ⟨c, h1, h2, rfl⟩)
    · refine Classical.byContradiction fun hx => ?_
      by_cases hex : ∃ y ∈ B, key y = key x
      · obtain ⟨y, hy, e⟩ := hex
        by_cases hyA : y ∈ A
        · have := up_inj hA hyA h1 e
          subst this; exact hx hy
        · exact h2 (there y) ((mem_dif _ A B hA hB).2 (.inr ⟨y, hy, rfl, hyA⟩)) e
      · exact h2 (gone x) ((mem_dif _ A B hA hB).2 (.inl ⟨x, h1, rfl, fun y hy e => hex ⟨y, hy, e⟩⟩)) rfl
    · rcases (mem_dif c A B hA hB).1 h1.mem with ⟨y, _, rfl, _⟩ | ⟨y, h3, rfl, _⟩
      · cases h2
      · exact h3
  · intro hx
    by_cases hxA : x ∈ A
    · refine .inl ⟨hxA, fun c hc e => ?_⟩
      rcases (mem_dif c A B hA hB).1 hc with ⟨y, h1, rfl, h3⟩ | ⟨y, h1, rfl, h3⟩
      · exact h3 x hx e.symm
      · have := up_inj hB h1 hx e
        subst this; exact h3 hxA
    · exact .inr ⟨there x, (up_lst (up_dif A B hA hB) _).2 ((mem_dif _ A B hA hB).2 (.inr ⟨x, hx, rfl, hxA⟩)), rfl, rfl⟩
theorem dif_self {A : List Itm} (hA : UpK key A) : dif A A = [] := by
  refine List.eq_nil_iff_forall_not_mem.2 fun c hc => ?_
  rcases (mem_dif c A A hA hA).1 hc with ⟨x, h1, _, h3⟩ | ⟨y, h1, _, h3⟩
  · exact h3 x h1 rfl
  · exact h3 h1
/-- each change between two lists changes something -/
theorem dif_few {A B : List Itm} (hA : UpK key A) (hB : UpK key B) {c : Ch} (hc : c ∈ dif A B) : app A [c] ≠ A := by
  intro e
  have hm : ∀ x, x ∈ don c A ↔ x ∈ A := fun x => by rw [show don c A = A from e]
  rcases (mem_dif c A B hA hB).1 hc with ⟨x, h1, rfl, h3⟩ | ⟨y, h1, rfl, h3⟩
  · rcases (mem_don _ x A).1 ((hm x).2 h1) with ⟨_, h4⟩ | ⟨h4, _⟩
    · exact h4 rfl
    · cases h4
  · exact h3 ((hm y).1 ((mem_don _ y A).2 (.inr ⟨rfl, rfl⟩)))
/-- what is apart is right -/
theorem rc_dif {A B : List Itm} (hA : rt A = true) (hB : rt B = true) : rc (dif A B) = true := by
  obtain ⟨a1, a2⟩ := rt_iff.1 hA
  obtain ⟨b1, b2⟩ := rt_iff.1 hB
  refine rc_iff.2 fun c hc => ?_
  rcases (mem_dif c A B a1 b1).1 hc with ⟨x, h1, rfl, h3⟩ | ⟨y, h1, rfl, h3⟩
  · have h := a2 x h1
    simp only [okI, Bool.and_eq_true] at h
    simp only [okC, gone, Bool.and_eq_true]
    exact ⟨h.1, rfl, by rw [ByteArray.toList_eq]; rfl⟩
  · have h := b2 y h1
    simp only [okI, Bool.and_eq_true] at h
    simp only [okC, there, Bool.and_eq_true]
    exact ⟨h.1, h.2, rfl⟩
/-! ## under a prefix -/
def pre (p : ByteArray) (x : Itm) : Bool := p.data.toList.isPrefixOf (key x)
def und (D : List Itm) (p : ByteArray) : List Itm := D.filter (pre p)
theorem bl_nil (a : List UInt8) : By.bl a [] = false := by cases a <;> rfl
theorem pre_ge : ∀ p a : List UInt8, p.isPrefixOf a = true → By.bl a p = false
  | [], a, _ => bl_nil a
  | x :: p, [], h => by cases h
  | x :: p, y :: a, h => by
    have h' : (x == y && p.isPrefixOf a) = true := h
    rw [Bool.and_eq_true] at h'
    have e : x = y := by simpa using h'.1
    subst e
    rw [Bool.eq_false_iff]
    intro h2
    rcases (By.bl_cons _ _ _ _).1 h2 with h3 | ⟨_, h3⟩
    · exact By.u8_irrefl h3
    · rw [pre_ge p a h'.2] at h3; cases h3
theorem pre_mid : ∀ p a b : List UInt8, By.bl a p = false → By.bl a b = true → p.isPrefixOf b = true → p.isPrefixOf a = true
  | [], _, _, _, _, _ => rfl
  | x :: p, a, [], _, _, h => by cases h
  | x :: p, [], y :: b, h, _, _ => by cases h
  | x :: p, z :: a, y :: b, h1, h2, h3 => by
    have h' : (x == y && p.isPrefixOf b) = true := h3
    rw [Bool.and_eq_true] at h'
    have e : x = y := by simpa using h'.1
    subst e
    have n1 : ¬ (z < x ∨ (z = x ∧ By.bl a p = true)) := fun e => by rw [(By.bl_cons z x a p).2 e] at h1; cases h1
    rcases (By.bl_cons _ _ _ _).1 h2 with h4 | ⟨rfl, h4⟩
    · exact absurd (.inl h4) n1
    · have : By.bl a p = false := by
        rw [Bool.eq_false_iff]; exact fun e => n1 (.inr ⟨rfl, e⟩)
      show (z == z && p.isPrefixOf a) = true
      rw [pre_mid p a b this h4 h'.2]
      simp
/-- what is under a prefix stands in one piece, from its place on -/
theorem und_piece {D : List Itm} {p : ByteArray} {i : Nat} (hD : UpK key D) (h : At D p i) : und D p = (D.drop i).takeWhile (pre p) := by
  obtain ⟨h1, h2, h3⟩ := h
  unfold und
  have e0 : D.filter (pre p) = (D.take i).filter (pre p) ++ (D.drop i).filter (pre p) := by rw [← List.filter_append, List.take_append_drop]
  have e1 : (D.take i).filter (pre p) = [] := by
    refine List.filter_eq_nil_iff.2 fun x hx hp => ?_
    have := pre_ge _ _ hp
    rw [show By.bl (key x) p.data.toList = true from h2 x hx] at this
    cases this
  rw [e0, e1, List.nil_append]
  have hu : UpK key (D.drop i) := hD.sub (List.drop_sublist _ _)
  clear e0 e1
  generalize D.drop i = E at *
  induction E with
  | nil => rfl
  | cons x E ih =>
    obtain ⟨u1, u2⟩ := UpK.cons.1 hu
    by_cases hx : pre p x = true
    · rw [List.filter_cons_of_pos hx, List.takeWhile_cons_of_pos hx]
      rw [ih (fun y hy => h3 y (List.mem_cons_of_mem _ hy)) u2]
    · rw [List.takeWhile_cons_of_neg hx, List.filter_cons_of_neg hx]
      refine List.filter_eq_nil_iff.2 fun y hy hp => hx ?_
      exact pre_mid _ _ _ (h3 x List.mem_cons_self) (u1 y hy) hp
theorem und_ok {D : List Itm} (p : ByteArray) (h : rt D = true) : rt (und D p) = true := by
  obtain ⟨h1, h2⟩ := rt_iff.1 h
  exact rt_of (h1.sub List.filter_sublist) fun x hx => h2 x (List.mem_filter.1 hx).1
theorem und_none (D : List Itm) : und D { data := #[] } = D := by
  unfold und
  exact List.filter_eq_self.2 fun x _ => rfl
end Go.Proofs.YtcnggidihkcndaaGreatDoor.It
