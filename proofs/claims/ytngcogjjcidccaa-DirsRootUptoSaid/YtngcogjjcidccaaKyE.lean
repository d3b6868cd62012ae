/- The document's own reading of bytes as a key. -/
import Derived.Test.YtngcogjjcidccaaKyD
namespace Go.Proofs.Ytngcogjjcidccaa.Ino
set_option linter.unusedVariables false
set_option linter.unusedSimpArgs false
open Go.ChangeShapes Go.WideShapes Go.ChangeAt Go.RowKit
open BigFrame
open Rg
open Pk (be num be_length num_be num_lt bs bs_size nB nE tN tR tE xB_size)
open Ph (has tl tl_len nb)
theorem deK_of {s : ByteArray} (h : rkB s) : deK s = rkN s ∧ deKE s = 0 := by
  have h1 := (askK s).1.2 h
  unfold deK deKE
  rw [if_pos h1, if_pos h1]
  exact ⟨((askK s).2 h).symm, rfl⟩
theorem deK_no {s : ByteArray} (h : ¬ rkB s) : deK s = zKy ∧ deKE s = 4 := by
  have h1 : ¬ (okK (tkK s) = true ∧ wrK (tkK s) = s) := fun h2 => h ((askK s).1.1 h2)
  unfold deK deKE
  rw [if_neg h1, if_neg h1]
  exact ⟨rfl, rfl⟩
theorem rkN_lim (s : ByteArray) : (rkN s).lim := by
  have h3 := tN4 (s.extract 1 s.size)
  have h4 := tN4 (tR (s.extract 1 s.size) 4)
  have h5 := kd_le s
  refine ⟨?_, ?_, ?_⟩
  · show kd s < 256; omega
  · simp only [rkN]; omega
  · simp only [rkN]
    split <;> omega
theorem ex_list (s : ByteArray) (i j : Nat) : (s.extract i j).data.toList = (s.data.toList.drop i).take (j - i) := by
  rw [ByteArray.data_extract, Array.toList_extract, List.extract_eq_take_drop]
/-- a kind's letter is the first byte -/
theorem first_letter {s : ByteArray} (h : 1 ≤ s.size) (k : Nat) (h1 : 1 ≤ k) (h2 : k ≤ 4) : (ltB k = s.extract 0 1) ↔ kd s = k := by
  constructor
  · intro e
    have hs : s = ltB k ++ s.extract 1 s.size := by
      rw [e]
      apply ByteArray.ext
      apply Array.toList_inj.1
      rw [ByteArray.data_append, Array.toList_append, ex_list, ex_list, List.drop_zero, List.take_of_length_le (i := s.size - 1) (by rw [List.length_drop, Array.length_toList]; exact Nat.le_refl _)]
      exact (List.take_append_drop 1 _).symm
    have := (kd_app (lt_of h1 h2) (s.extract 1 s.size)).1
    unfold ltB at hs
    rw [← hs] at this
    exact this
  · intro e
    have h0 : kd s ≠ 0 := by omega
    have hh := (head_cut h0).1
    have hl := (kd_app (lt_of h1 h2) ByteArray.empty).2.2
    rw [e] at hh
    have : s.extract 0 1 = ltB k := by
      conv => lhs; rw [← hh]
      exact ByteArray.extract_append_eq_left (by rw [bs_size, hl])
    exact this.symm
theorem below_q (w : World) (q : Nat) : Below w.heap.size w (w.drewN q) := ⟨rfl, rfl, rfl, Nat.le_refl _, fun _ _ => rfl⟩
theorem kinds_cell (i : Nat) (h : i < 4) : (#[.int .u8 1, .int .u8 2, .int .u8 3, .int .u8 4] : Array Value)[i]? = some (.int .u8 ((i + 1 : Nat) : Int)) := by
  rcases (show i = 0 ∨ i = 1 ∨ i = 2 ∨ i = 3 by omega) with rfl | rfl | rfl | rfl <;> rfl
/-- what holds while the document looks for the kind -/
def AtK (s : ByteArray) (g0 g1 : Nat) (w0 wr : World) (i : Nat) : Prop :=
  (kd s = 0 ∨ i + 1 ≤ kd s ∨ ¬ rkB s) ∧ wr.heap[g0]? = some (.cells #[.int .u8 0, .int .u32 0, .string ⟨#[]⟩, .int .u32 0] 73 (0, 0)) ∧ wr.heap[g1]? = some (.cells #[.int .u8 1, .int .u8 2, .int .u8 3, .int .u8 4] 71 (0, 0)) ∧ g0 < wr.heap.size ∧ g1 < wr.heap.size ∧ Below g0 w0 wr
theorem AtK.go {s : ByteArray} {g0 g1 : Nat} {w0 wr w' : World} {i : Nat} (h : AtK s g0 g1 w0 wr i) (hb : Below wr.heap.size wr w') (j : Nat) (hj : kd s = 0 ∨ j + 1 ≤ kd s ∨ ¬ rkB s) : AtK s g0 g1 w0 w' j := by
  obtain ⟨_, a, b, c, d, e⟩ := h
  exact ⟨hj, row_bel a hb c, row_bel b hb d, Nat.lt_of_lt_of_le c hb.size, Nat.lt_of_lt_of_le d hb.size, e.trans (hb.mono (Nat.le_of_lt c))⟩
end Go.Proofs.Ytngcogjjcidccaa.Ino
