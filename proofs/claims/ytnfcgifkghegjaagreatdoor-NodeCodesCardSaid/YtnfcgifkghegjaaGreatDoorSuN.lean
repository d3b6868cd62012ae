/- Plain mathematics of two superblocks in their slots. No walk here. -/
import Derived.Test.YtnfcgifkghegjaaGreatDoorSuE
namespace Go.Proofs.YtnfcgifkghegjaaGreatDoor.Sp
set_option linter.unusedVariables false
set_option linter.unusedSimpArgs false
open Nd
open Pk (be num be_length)
open Go.ChangeShapes Go.WideShapes Go.ChangeAt Go.RowKit
theorem box2 (w : World) (c1 c2 : Array Value) (t1 t2 : TypeId) : ((w.alloc (.cells c1 t1)).alloc (.cells c2 t2)).heap[w.heap.size]? = some (.cells c1 t1 (0, 0)) ∧ ((w.alloc (.cells c1 t1)).alloc (.cells c2 t2)).heap[w.heap.size + 1]? = some (.cells c2 t2 (0, 0)) ∧
    Below w.heap.size w ((w.alloc (.cells c1 t1)).alloc (.cells c2 t2)) ∧ w.heap.size + 1 < ((w.alloc (.cells c1 t1)).alloc (.cells c2 t2)).heap.size := by
  refine ⟨?_, ?_, ((Below.refl _ _).alloc (Nat.le_refl _) _).alloc (by simp) _, by simp⟩
  · have h1 := heap_alloc_new w (.cells c1 t1)
    have h2 : Below (w.heap.size + 1) (w.alloc (.cells c1 t1)) ((w.alloc (.cells c1 t1)).alloc (.cells c2 t2)) := (Below.refl _ _).alloc (by simp) _
    exact (h2.block _ (Nat.lt_succ_self _)).trans h1
  · have := heap_alloc_new (w.alloc (.cells c1 t1)) (.cells c2 t2)
    simpa using this
/-- data are a superblock's -/
def IsS (d : ByteArray) : Prop := okS (tkS d) = true ∧ enS (tkS d) = d
instance (d : ByteArray) : Decidable (IsS d) := by unfold IsS; infer_instance
theorem tk_enS {s : Su} (l : s.lim) (h : okS s = true) : tkS (enS s) = s := by
  rw [(chS_yes h).2]
  have hl := wS_len l.2.2.2
  have hD := seal_fill (b := wS s) (by omega)
  have h4 := sumB_len (fillz (wS s) 508)
  have hb := cS_good.back s (List.replicate (458 + (sealL (wS s)).length) 0) false (cS_ok l)
  unfold tkS
  have e : (((bs (sealL (wS s))).data.toList ++ List.replicate 512 0).drop 6) = cS.wr s ++ List.replicate (458 + (sealL (wS s)).length) 0 := by
    have hle := seal_len (b := wS s) (by omega)
    have e0 : (bs (sealL (wS s))).data.toList ++ List.replicate 512 0 = fillz (sealL (wS s)) 512 ++ List.replicate (sealL (wS s)).length 0 := by
      rw [bs_data]
      unfold fillz
      rw [List.append_assoc, List.replicate_append_replicate, show 512 - (sealL (wS s)).length + (sealL (wS s)).length = 512 by omega]
    rw [e0, hD, List.append_assoc, List.drop_append, h4, List.drop_of_length_le (by omega), List.nil_append]
    show List.drop 2 (fillz (wS s) 508 ++ _) = _
    unfold fillz
    rw [hl]
    show List.drop 2 ((([67, 66] ++ cS.wr s) ++ _) ++ _) = _
    rw [List.append_assoc, List.append_assoc, List.replicate_append_replicate]
    rfl
  rw [e, hb]
theorem isS_en {s : Su} (l : s.lim) (h : okS s = true) : IsS (enS s) := by unfold IsS; rw [tk_enS l h]; exact ⟨h, rfl⟩
theorem de_en {s : Su} (l : s.lim) (h : okS s = true) : deV (enS s) = s ∧ deX (enS s) = 0 := by
  have := de_yes (isS_en l h)
  rw [tk_enS l h] at this
  exact this
/-- what stands in a slot -/
def inS (d : ByteArray) (i : Nat) : List Su := if IsS d ∧ slotS (tkS d) = i then [tkS d] else []
def ord2 : List Su → List Su → List Su
  | [x], [y] => if x.G < y.G then [y, x] else [x, y]
  | xs, ys => xs ++ ys
def ordS (a b : ByteArray) : List Su := ord2 (inS a 0) (inS b 1)
theorem inS_cases (d : ByteArray) (i : Nat) : inS d i = [] ∨ ∃ s : Su, inS d i = [s] ∧ s.lim ∧ okS s = true ∧ enS s = d ∧ slotS s = i := by
  unfold inS
  split
  · rename_i h
    exact .inr ⟨tkS d, rfl, tkS_lim d, h.1.1, h.1.2, h.2⟩
  · exact .inl rfl
theorem enS_some {s : Su} (l : s.lim) (h : okS s = true) : enS s ≠ ByteArray.empty := by
  rw [(chS_yes h).2]
  intro e
  have h0 : sealL (wS s) = [] := by
    have := congrArg (fun s : ByteArray => s.data.toList) e
    rw [bs_data] at this
    exact this
  have hD := seal_fill (b := wS s) (by rw [wS_len l.2.2.2]; omega)
  rw [h0] at hD
  have h1 := congrArg (fun l : List UInt8 => l[4]?) hD
  try dsimp only at h1
  rw [List.getElem?_append_right (by rw [sumB_len]; omega), sumB_len] at h1
  have h2 : (fillz (wS s) 508)[4 - 4]? = some 67 := rfl
  have h3 : (fillz [] 512)[4]? = some (0 : UInt8) := by decide +kernel
  rw [h2, h3] at h1
  exact absurd (Option.some.inj h1) (by decide)
theorem inS_none (i : Nat) : inS ByteArray.empty i = [] := by
  rcases inS_cases ByteArray.empty i with h | ⟨s, h, h1, h2, h3, _⟩
  · exact h
  · exact absurd h3 (enS_some h1 h2)
theorem ordS_cases (a b : ByteArray) : ∃ xs ys, inS a 0 = xs ∧ inS b 1 = ys ∧ ordS a b = ord2 xs ys := ⟨_, _, rfl, rfl, rfl⟩
/-- each of them stands in its slot -/
def AtS (a b : ByteArray) (s : Su) : Prop := s.lim ∧ okS s = true ∧ ((slotS s = 0 ∧ enS s = a) ∨ (slotS s = 1 ∧ enS s = b))
theorem ordS_what (a b : ByteArray) : (∀ s ∈ ordS a b, AtS a b s) ∧ (ordS a b).length = (inS a 0).length + (inS b 1).length ∧ (ordS a b).length ≤ 2 ∧ ∀ x y, ordS a b = [x, y] → y.G ≤ x.G := by
  unfold ordS
  rcases inS_cases a 0 with h | ⟨s, h, l, k, e, sl⟩ <;> rcases inS_cases b 1 with h' | ⟨t, h', l', k', e', sl'⟩
  · rw [h, h']; exact ⟨fun s hs => (by cases hs), rfl, Nat.le_of_ble_eq_true rfl, fun x y h => (by cases h)⟩
  · rw [h, h']
    refine ⟨fun s hs => ?_, rfl, Nat.le_of_ble_eq_true rfl, fun x y h => (by cases h)⟩
    have : s = t := by simpa [ord2] using hs
    subst this
    exact ⟨l', k', .inr ⟨sl', e'⟩⟩
  · rw [h, h']
    refine ⟨fun t ht => ?_, rfl, Nat.le_of_ble_eq_true rfl, fun x y h => (by cases h)⟩
    have : t = s := by simpa [ord2] using ht
    subst this
    exact ⟨l, k, .inl ⟨sl, e⟩⟩
  · rw [h, h']
    have A : AtS a b s := ⟨l, k, .inl ⟨sl, e⟩⟩
    have B : AtS a b t := ⟨l', k', .inr ⟨sl', e'⟩⟩
    by_cases hg : s.G < t.G
    · have e1 : ord2 [s] [t] = [t, s] := if_pos hg
      rw [e1]
      refine ⟨fun x hx => ?_, rfl, Nat.le_of_ble_eq_true rfl, fun x y h => ?_⟩
      · rcases List.mem_cons.1 hx with rfl | hx
        · exact B
        · rcases List.mem_cons.1 hx with rfl | hx
          · exact A
          · cases hx
      · cases h; exact Nat.le_of_lt hg
    · have e1 : ord2 [s] [t] = [s, t] := if_neg hg
      rw [e1]
      refine ⟨fun x hx => ?_, rfl, Nat.le_of_ble_eq_true rfl, fun x y h => ?_⟩
      · rcases List.mem_cons.1 hx with rfl | hx
        · exact A
        · rcases List.mem_cons.1 hx with rfl | hx
          · exact B
          · cases hx
      · cases h; exact Nat.le_of_not_lt hg
theorem ordS_left (a : ByteArray) : ordS a ByteArray.empty = inS a 0 := by
  unfold ordS
  rw [inS_none]
  rcases inS_cases a 0 with h | ⟨s, h, _⟩ <;> rw [h] <;> rfl
theorem ordS_right (b : ByteArray) : ordS ByteArray.empty b = inS b 1 := by
  unfold ordS
  rw [inS_none]
  rcases inS_cases b 1 with h | ⟨s, h, _⟩ <;> rw [h] <;> rfl
end Go.Proofs.YtnfcgifkghegjaaGreatDoor.Sp
