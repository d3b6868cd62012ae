/- What the rounds of package slices' stableCmpFunc come to: stretches of one length, each in order, merged two by two. -/
import Derived.Test.YtjkmfonngbendaaGreatDoorChK
namespace Go.Proofs.YtjkmfonngbendaaGreatDoor.Sc
set_option linter.unusedVariables false
set_option maxRecDepth 100000
open Go.ChangeShapes Go.WideShapes Go.ChangeAt Go.RowKit
open Ar Rg St
def Fl (k : Nat) (B : List Ch) : Prop := ∃ cs : List (List Ch), B = cs.flatten ∧ ∀ c ∈ cs, c.length = k ∧ Srt key lt c
def Ck (k : Nat) (C : List Ch) : Prop := ∃ (ds : List (List Ch)) (T : List Ch), C = ds.flatten ++ T ∧ (∀ c ∈ ds, c.length = k ∧ Srt key lt c) ∧ T.length < k ∧ Srt key lt T
theorem Fl.nil (k : Nat) : Fl k [] := ⟨[], rfl, by simp⟩
theorem Fl.snoc {k : Nat} {B Z : List Ch} (h : Fl k B) (hz : Z.length = k) (hs : Srt key lt Z) : Fl k (B ++ Z) := by
  obtain ⟨cs, rfl, hc⟩ := h
  refine ⟨cs ++ [Z], by simp, ?_⟩
  intro c hcm
  rcases List.mem_append.1 hcm with h | h
  · exact hc c h
  · simp at h; subst h; exact ⟨hz, hs⟩
theorem Fl.ck {k : Nat} {B Z : List Ch} (h : Fl k B) (hz : Z.length < k) (hs : Srt key lt Z) : Ck k (B ++ Z) := by
  obtain ⟨cs, rfl, hc⟩ := h
  exact ⟨cs, Z, rfl, hc, hz, hs⟩
theorem Ck.two {k : Nat} {C : List Ch} (h : Ck k C) (hl : 2 * k ≤ C.length) : ∃ X Y C', C = X ++ (Y ++ C') ∧ X.length = k ∧ Y.length = k ∧ Srt key lt X ∧ Srt key lt Y ∧ Ck k C' := by
  obtain ⟨ds, T, rfl, hc, ht, hs⟩ := h
  match ds, hc, hl with
  | [], _, hl => simp at hl; omega
  | [X], hc, hl =>
    have := hc X (by simp)
    simp at hl; omega
  | X :: Y :: ds, hc, hl =>
    have h1 := hc X (by simp)
    have h2 := hc Y (by simp)
    exact ⟨X, Y, ds.flatten ++ T, by simp, h1.1, h2.1, h1.2, h2.2, ds, T, rfl, fun c h => hc c (by simp [h]), ht, hs⟩
theorem Ck.one {k : Nat} {C : List Ch} (h : Ck k C) (hl : k < C.length) (hl2 : C.length < 2 * k) : ∃ X Y, C = X ++ Y ∧ X.length = k ∧ 0 < Y.length ∧ Srt key lt X ∧ Srt key lt Y := by
  obtain ⟨ds, T, rfl, hc, ht, hs⟩ := h
  match ds, hc, hl, hl2 with
  | [], _, hl, _ => simp at hl; omega
  | [X], hc, hl, _ =>
    have := hc X (by simp)
    exact ⟨X, T, by simp, this.1, by simp at hl; omega, this.2, hs⟩
  | X :: Y :: ds, hc, _, hl =>
    have h1 := hc X (by simp)
    have h2 := hc Y (by simp)
    simp at hl; omega
theorem Ck.few {k : Nat} {C : List Ch} (h : Ck k C) (hl : C.length ≤ k) : Srt key lt C := by
  obtain ⟨ds, T, rfl, hc, ht, hs⟩ := h
  match ds, hc, hl with
  | [], _, _ => simpa using hs
  | [X], hc, hl =>
    have := hc X (by simp)
    have hT : T = [] := List.eq_nil_of_length_eq_zero (by simp at hl; omega)
    subst hT
    simpa using this.2
  | X :: Y :: ds, hc, hl =>
    have h1 := hc X (by simp)
    have h2 := hc Y (by simp)
    simp at hl; omega
def L1 (D : List Ch) (g : Nat) (w : World) (a : Nat) (wr : World) : Prop := ∃ A : List Ch, Arr enc 3 wr g (A ++ D.drop a) ∧ A.length = a ∧ a ≤ D.length ∧ Fl 20 A ∧ Sm key (D.take a) A ∧ w.grownBy wr (some g)
def L2 (D : List Ch) (g : Nat) (w : World) (bs : Nat) (wr : World) : Prop := ∃ A : List Ch, Arr enc 3 wr g A ∧ A.length = D.length ∧ Ck bs A ∧ Sm key D A ∧ w.grownBy wr (some g)
def L3 (D : List Ch) (g : Nat) (w : World) (bs a : Nat) (wr : World) : Prop := ∃ B C : List Ch, Arr enc 3 wr g (B ++ C) ∧ B.length = a ∧ B.length + C.length = D.length ∧ Fl (2 * bs) B ∧ Ck bs C ∧ Sm key D (B ++ C) ∧ w.grownBy wr (some g)
/-- sorted, of each key the same -/
def Done (D : List Ch) (g : Nat) (w wr : World) : Prop := ∃ A : List Ch, Arr enc 3 wr g A ∧ A.length = D.length ∧ Srt key lt A ∧ Sm key D A ∧ w.grownBy wr (some g)
section
variable {D : List Ch} {g N : Nat} {w wr : World}
theorem l1_start (hA : Arr enc 3 w g D) : L1 D g w 0 w := ⟨[], by simpa using hA, rfl, Nat.zero_le _, Fl.nil _, by simpa using Sm.refl _, grown_refl _ _⟩
set_option maxRecDepth 100000 in
theorem insertion_none (a : Nat) (V F : Value) (hm : a ≤ 281474976710656) (w : World) :
    Calls Tryz.prog 171 #[V, .int .i64 a, .int .i64 a, F] w fun e w' => e = .returned (.tuple #[]) ∧ w = w' := by
  go_enter Tryz.func171, Tryz.ntmps171
  go_wp2_with fail
  go_loopw [8] (fun v wr => v = .int .i64 ((a : Int) + 1) ∧ w = wr) (fun v _ => 0)
  case atStart => exact ⟨rfl, rfl⟩
  case round =>
    obtain ⟨rfl, rfl⟩ := hrel
    have h1 : ¬ ((a : Int) + 1 < a) := by omega
    go_wp2
    exact ⟨rfl, _, results_none rfl _ _ _, rfl, rfl⟩
theorem l1_step (hN : N = D.length) (cap : Nat) (hL : N ≤ cap) (hm : N ≤ 281474976710656) {a : Nat} (h : L1 D g w a wr) (ha : a + 20 ≤ N) (b : Int) (hb : b = (a : Int) + 20) :
    Calls Tryz.prog 171 #[.slice (some ⟨g, 0, none⟩) N cap, .int .i64 a, .int .i64 b, CMP] wr fun e w' => e = .returned (.tuple #[]) ∧ L1 D g w (a + 20) w' := by
  obtain ⟨A, h1, h2, h3, h4, h5, h6⟩ := h
  have l1 : ((D.drop a).take 20).length = 20 := by rw [List.length_take, List.length_drop]; omega
  have e1 : D.drop a = (D.drop a).take 20 ++ D.drop (a + 20) := by rw [← List.drop_drop, List.take_append_drop]
  refine (insertion_any A ((D.drop a).take 20) (D.drop (a + 20)) (A ++ D.drop a) (by rw [← e1]) (by omega) g cap N (by rw [List.length_append, List.length_drop]; omega) hL hm wr h1 _ _ (by rw [h2]) (by rw [hb, l1, h2]; rfl)).mono fun e w' h => ⟨h.1, ?_⟩
  obtain ⟨S', s1, s2, s3, s4, s5⟩ := h.2
  refine ⟨A ++ S', by rw [List.append_assoc]; exact s1, by rw [List.length_append]; omega, by omega, Fl.snoc h4 (by omega) s3, ?_, grown_trans h6 s5⟩
  rw [List.take_add]
  exact Sm.append h5 s4
theorem l1_last (hN : N = D.length) (cap : Nat) (hL : N ≤ cap) (hm : N ≤ 281474976710656) {a : Nat} (h : L1 D g w a wr) (ha : N < a + 20) :
    Calls Tryz.prog 171 #[.slice (some ⟨g, 0, none⟩) N cap, .int .i64 a, .int .i64 N, CMP] wr fun e w' => e = .returned (.tuple #[]) ∧ L2 D g w 20 w' := by
  obtain ⟨A, h1, h2, h3, h4, h5, h6⟩ := h
  by_cases h0 : a = N
  · subst h0
    refine (insertion_none a _ _ (by omega) wr).mono fun e w' h => ⟨h.1, ?_⟩
    obtain ⟨_, rfl⟩ := h
    have e0 : D.drop a = [] := List.drop_eq_nil_of_le (by omega)
    have e1 : D.take a = D := List.take_of_length_le (by omega)
    rw [e0, List.append_nil] at h1
    rw [e1] at h5
    have := Fl.ck h4 (Z := []) (by simp) Srt.nil
    rw [List.append_nil] at this
    exact ⟨A, h1, by omega, this, h5, h6⟩
  · refine (insertion_any A (D.drop a) [] (A ++ D.drop a) (by simp) (by rw [List.length_drop]; omega) g cap N (by rw [List.length_append, List.length_drop]; omega) hL hm wr h1 _ _ (by rw [h2]) (by rw [List.length_drop, h2]; omega)).mono fun e w' h => ⟨h.1, ?_⟩
    obtain ⟨S', s1, s2, s3, s4, s5⟩ := h.2
    rw [List.length_drop] at s2
    rw [List.append_nil] at s1
    refine ⟨A ++ S', s1, by rw [List.length_append]; omega, Fl.ck h4 (by omega) s3, ?_, grown_trans h6 s5⟩
    have := Sm.append h5 s4
    rwa [List.take_append_drop] at this
theorem l2_in {bs : Nat} (h : L2 D g w bs wr) : L3 D g w bs 0 wr := by
  obtain ⟨A, h1, h2, h3, h4, h5⟩ := h
  exact ⟨[], A, h1, rfl, by simpa using h2, Fl.nil _, h3, h4, h5⟩
theorem l2_end {bs : Nat} (h : L2 D g w bs wr) (hb : D.length ≤ bs) : Done D g w wr := by
  obtain ⟨A, h1, h2, h3, h4, h5⟩ := h
  exact ⟨A, h1, h2, h3.few (by omega), h4, h5⟩
theorem l3_step (hN : N = D.length) (cap : Nat) (hL : N ≤ cap) (hm : N ≤ 281474976710656) {bs a : Nat} (h : L3 D g w bs a wr) (h0 : 0 < bs) (ha : a + 2 * bs ≤ N) (m b : Int) (hmm : m = (a : Int) + bs) (hb : b = (a : Int) + 2 * bs) :
    Calls Tryz.prog 172 #[.slice (some ⟨g, 0, none⟩) N cap, .int .i64 a, .int .i64 m, .int .i64 b, CMP] wr fun e w' => e = .returned (.tuple #[]) ∧ L3 D g w bs (a + 2 * bs) w' := by
  obtain ⟨B, C, h1, h2, h3, h4, h5, h6, h7⟩ := h
  obtain ⟨X, Y, C', rfl, x1, y1, x2, y2, c1⟩ := h5.two (by omega)
  simp only [List.length_append] at h3
  refine (sym_any B X Y C' _ rfl (by omega) (by omega) x2 y2 g cap N (by simp only [List.length_append]; omega) hL hm wr h1 _ _ _ (by rw [h2]) (by rw [hmm, h2, x1]) (by rw [hb, h2, x1, y1]; omega)).mono fun e w' h => ⟨h.1, ?_⟩
  obtain ⟨Z, z1, z2, z3, z4, z5⟩ := h.2
  refine ⟨B ++ Z, C', by rw [List.append_assoc]; exact z1, by rw [List.length_append]; omega, by rw [List.length_append]; omega, Fl.snoc h4 (by omega) z3, c1, ?_, grown_trans h7 z5⟩
  refine h6.trans ?_
  rw [List.append_assoc, ← List.append_assoc X]
  exact Sm.append (Sm.refl _) (Sm.append z4 (Sm.refl _))
theorem l3_last (hN : N = D.length) (cap : Nat) (hL : N ≤ cap) (hm : N ≤ 281474976710656) {bs a : Nat} (h : L3 D g w bs a wr) (h0 : 0 < bs) (ha : N < a + 2 * bs) (m : Int) (hmm : m = (a : Int) + bs) (ha2 : a + bs < N) :
    Calls Tryz.prog 172 #[.slice (some ⟨g, 0, none⟩) N cap, .int .i64 a, .int .i64 m, .int .i64 N, CMP] wr fun e w' => e = .returned (.tuple #[]) ∧ L2 D g w (2 * bs) w' := by
  obtain ⟨B, C, h1, h2, h3, h4, h5, h6, h7⟩ := h
  obtain ⟨X, Y, rfl, x1, y1, x2, y2⟩ := h5.one (by omega) (by omega)
  simp only [List.length_append] at h3
  refine (sym_any B X Y [] (B ++ (X ++ Y)) (by simp) (by omega) (by omega) x2 y2 g cap N (by simp only [List.length_append]; omega) hL hm wr h1 _ _ _ (by rw [h2]) (by rw [hmm, h2, x1]) (by omega)).mono fun e w' h => ⟨h.1, ?_⟩
  obtain ⟨Z, z1, z2, z3, z4, z5⟩ := h.2
  rw [List.append_nil] at z1
  refine ⟨B ++ Z, z1, by rw [List.length_append]; omega, Fl.ck h4 (by omega) z3, h6.trans (Sm.append (Sm.refl _) z4), grown_trans h7 z5⟩
theorem l3_few (hN : N = D.length) {bs a : Nat} (h : L3 D g w bs a wr) (h0 : 0 < bs) (ha : N ≤ a + bs) : L2 D g w (2 * bs) wr := by
  obtain ⟨B, C, h1, h2, h3, h4, h5, h6, h7⟩ := h
  exact ⟨B ++ C, h1, by rw [List.length_append]; exact h3, Fl.ck h4 (by omega) (h5.few (by omega)), h6, h7⟩
theorem L3.le (hN : N = D.length) {bs a : Nat} (h : L3 D g w bs a wr) : a ≤ N := by
  obtain ⟨B, C, h1, h2, h3, _⟩ := h
  omega
theorem L1.le (hN : N = D.length) {a : Nat} (h : L1 D g w a wr) : a ≤ N := by
  obtain ⟨A, h1, h2, h3, _⟩ := h
  omega
end
end Go.Proofs.YtjkmfonngbendaaGreatDoor.Sc
