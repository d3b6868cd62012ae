/- The document's own answers about inodes. -/
import Derived.Test.YtngcogjjcidccaaInB
namespace Go.Proofs.Ytngcogjjcidccaa.Ino
set_option linter.unusedVariables false
set_option linter.unusedSimpArgs false
open Go.ChangeShapes Go.WideShapes Go.ChangeAt Go.RowKit
open Rg
open Pk (be num be_length num_be num_lt bs bs_size nB nE tN tR tE uN uOk uT uR uE xB xE xB_size)
open Ph (has has_take has_iff byte_ne byte_eq tl tl_len nb)
theorem cut_cut (s : ByteArray) (a k : Nat) (h1 : 1 ≤ k) (h2 : k ≤ 8) (h : a + k ≤ s.size) : tR (s.extract a s.size) (k : Int) = s.extract (a + k) s.size := by
  have hz : (s.extract a s.size).size = s.size - a := by rw [ByteArray.size_extract]; omega
  rw [tR_of _ k h1 h2 (by omega), ByteArray.extract_extract, hz]
  congr 1
  omega
theorem first_num (s : ByteArray) (h : 0 < s.size) : (tN s ((1 : Nat) : Int)).toNat = s[0].toNat := by
  rw [tN_of s 1 (by omega) (by omega) (by omega), Int.toNat_natCast]
  have e : s.data.toList.take 1 = [s[0]] := by
    have hl : 0 < s.data.toList.length := by simpa using h
    have := List.take_succ_eq_append_getElem hl
    rw [List.take_zero, List.nil_append] at this
    exact this
  rw [e]
  simp [num]
theorem deI_of {s : ByteArray} {n : In} (hn : tkI s = n) (h : 11 ≤ s.size ∧ uE (tR (tR (tR (tR s 1) 2) 4) 4) = 0 ∧ uR (tR (tR (tR (tR s 1) 2) 4) 4) = ByteArray.empty ∧ okI n = true) : deI s = n ∧ deIE s = 0 := by
  have := (ask_same s).2 (by rw [hn]; exact h)
  unfold deI deIE
  rw [if_pos this, if_pos this]
  exact ⟨hn, rfl⟩
theorem deI_no {s : ByteArray} (h : ¬ (11 ≤ s.size ∧ uE (tR (tR (tR (tR s 1) 2) 4) 4) = 0 ∧ uR (tR (tR (tR (tR s 1) 2) 4) 4) = ByteArray.empty ∧ okI (tkI s) = true)) : deI s = zIn ∧ deIE s = 4 := by
  have : ¬ (okI (tkI s) = true ∧ wrI (tkI s) = s) := fun h2 => h ((ask_same s).1 h2)
  unfold deI deIE
  rw [if_neg this, if_neg this]
  exact ⟨rfl, rfl⟩
theorem new_row2 {w1 : World} {g : Nat} {o : Obj} {old cs : Array Value} {t : TypeId} (h : w1.heap[g]? = some o) : ((w1.alloc (.cells old t)).setRow w1.heap.size cs).heap[g]? = some o ∧ ((w1.alloc (.cells old t)).setRow w1.heap.size cs).heap[w1.heap.size]? = some (.cells cs t (0, 0)) ∧ Below w1.heap.size w1 ((w1.alloc (.cells old t)).setRow w1.heap.size cs) ∧ w1.heap.size < ((w1.alloc (.cells old t)).setRow w1.heap.size cs).heap.size := by
  have k := new_row (old := old) (cs := cs) (t := t) h rfl
  refine ⟨k.1, k.2.1, k.2.2, ?_⟩
  rcases Nat.lt_or_ge w1.heap.size ((w1.alloc (.cells old t)).setRow w1.heap.size cs).heap.size with h' | h'
  · exact h'
  · have := k.2.1; rw [Array.getElem?_eq_none h'] at this; cases this
end Go.Proofs.Ytngcogjjcidccaa.Ino
