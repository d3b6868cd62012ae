/- Contracts of package node's taking: a number, bytes, a text, a hash, taken off what is left. -/
import Derived.Test.YtlpejbbmemhloaaGreatDoorNdA
import Derived.Test.YtlpejbbmemhloaaGreatDoorLs
namespace Go.Proofs.YtlpejbbmemhloaaGreatDoor.Nd
set_option linter.unusedVariables false
open Go.ChangeShapes Go.WideShapes Go.ChangeAt Go.RowKit
open Pk (be num be_length nB nE numOk take_any tN tR tE)
/-- what is left, in block q -/
def TkR (w : World) (q : Nat) (s : ByteArray) (b : Bool) : Prop := w.heap[q]? = some (.cells #[.string s, .bool b] 203 (0, 0))
theorem TkR.lt {w : World} {q : Nat} {s : ByteArray} {b : Bool} (h : TkR w q s b) : q < w.heap.size := by
  rcases Nat.lt_or_ge q w.heap.size with hl | hg
  · exact hl
  · unfold TkR at h; rw [Array.getElem?_eq_none hg] at h; cases h
theorem TkR.c0 {w : World} {q : Nat} {s : ByteArray} {b : Bool} (h : TkR w q s b) : w.cell? ⟨q, 0, none⟩ = some (.string s) := cell_of_row _ _ 0 _ _ _ h
theorem TkR.c1 {w : World} {q : Nat} {s : ByteArray} {b : Bool} (h : TkR w q s b) : w.cell? ⟨q, 1, none⟩ = some (.bool b) := cell_of_row _ _ 1 _ _ _ h
theorem TkR.fr {w : World} {q : Nat} {s : ByteArray} {b : Bool} (h : TkR w q s b) (o : Nat) : w.frozen? ⟨q, o, none⟩ = false := frozen_of_row _ _ _ _ _ h
theorem TkR.below {w w' : World} {q : Nat} {s : ByteArray} {b : Bool} (h : TkR w q s b) (hb : Below w.heap.size w w') : TkR w' q s b := (hb.block q h.lt).trans h
theorem TkR.set0 {w : World} {q : Nat} {s : ByteArray} {b : Bool} (h : TkR w q s b) (r : ByteArray) : TkR (w.setCell ⟨q, 0, none⟩ (.string r)) q r b := by
  unfold TkR at *; simp [World.setCell, h, Array.getElem?_modify]
theorem TkR.set1 {w : World} {q : Nat} {s : ByteArray} {b : Bool} (h : TkR w q s b) (c : Bool) : TkR (w.setCell ⟨q, 1, none⟩ (.bool c)) q s c := by
  unfold TkR at *; simp [World.setCell, h, Array.getElem?_modify]
theorem grown_of_below {w w' : World} {row : Option Nat} (h : Below w.heap.size w w') : w.grownBy w' row := ⟨h.os, h.tape, h.output, h.size, fun k hk _ => h.block k hk⟩
theorem grown_then {w w1 w2 : World} {q : Nat} (h1 : w.grownBy w1 (some q)) (h2 : w1.grownBy w2 (some q)) : w.grownBy w2 (some q) :=
  ⟨h2.os.trans h1.os, h2.tape.trans h1.tape, h2.output.trans h1.output, Nat.le_trans h1.size h2.size, fun k hk hne => (h2.block k (Nat.lt_of_lt_of_le hk h1.size) hne).trans (h1.block k hk hne)⟩
theorem grown_setCell (w : World) (p : Addr) (u : Value) : w.grownBy (w.setCell p u) (some p.block) :=
  ⟨rfl, rfl, rfl, by simp [World.setCell], fun k hk hne => heap_setCell_other w p k u (fun e => hne (by rw [e]))⟩
/-- a list in memory of the call's own, in blocks from B on -/
theorem grown_set (w : World) (q o : Nat) (u : Value) : w.grownBy (w.setCell ⟨q, o, none⟩ u) (some q) := grown_setCell w ⟨q, o, none⟩ u
theorem extract_bs (s : ByteArray) (k : Nat) : s.extract k s.size = bs (s.data.toList.drop k) := by
  apply ByteArray.ext
  apply Array.toList_inj.1
  rw [ByteArray.data_extract, bs_data, Array.toList_extract, List.extract_eq_take_drop, List.take_of_length_le]
  rw [List.length_drop]
  show s.data.toList.length - k ≤ s.size - k
  rw [Array.length_toList]
  exact Nat.le_refl _
theorem extract_to (s : ByteArray) (k : Nat) : s.extract 0 k = bs (s.data.toList.take k) := by
  apply ByteArray.ext
  apply Array.toList_inj.1
  rw [ByteArray.data_extract, bs_data, Array.toList_extract, List.extract_eq_take_drop]
  simp
theorem tkNum_yes {k : Nat} {s : ByteArray} {b : Bool} (h : k ≤ s.size) : tkNum k (s.data.toList, b) = (num (s.data.toList.take k), (s.data.toList.drop k, b)) := by
  unfold tkNum; rw [if_pos (show k ≤ s.data.toList.length by rw [Array.length_toList]; exact h)]
theorem tkNum_no {k : Nat} {s : ByteArray} {b : Bool} (h : ¬ k ≤ s.size) : tkNum k (s.data.toList, b) = (0, ([], true)) := by
  unfold tkNum; rw [if_neg (show ¬ k ≤ s.data.toList.length by rw [Array.length_toList]; exact h)]
theorem bs_nil : bs [] = ByteArray.empty := rfl
set_option maxHeartbeats 1000000 in
theorem number_tk {w : World} {q : Nat} {s : ByteArray} {b : Bool} (h : TkR w q s b) (k : Nat) (h1 : 1 ≤ k) (h2 : k ≤ 8) (h4 : s.size ≤ maxLen) :
    Calls Tryz.prog 150 #[.pointer (some ⟨q, 0, none⟩), .int .i64 k] w fun e w' => e = .returned (.int .u64 (tkNum k (s.data.toList, b)).1) ∧ TkR w' q (bs (tkNum k (s.data.toList, b)).2.1) (tkNum k (s.data.toList, b)).2.2 ∧ w.grownBy w' (some q) := by
  have HT := Lib.hid h
  by_cases hs : k ≤ s.size
  · have hc : 1 ≤ (k : Int) ∧ (k : Int) ≤ 8 ∧ (k : Int).toNat ≤ s.size := ⟨by omega, by omega, by simpa using hs⟩
    have e1 : tN s k = (num (s.data.toList.take k) : Nat) := by unfold tN; rw [if_pos hc, Int.toNat_natCast]
    have e2 : tR s k = bs (s.data.toList.drop k) := by unfold tR; rw [if_pos hc, Int.toNat_natCast, extract_bs]
    have e3 : tE s k = 0 := by unfold tE; rw [if_pos ⟨hc.1, hc.2.1⟩, if_pos hc.2.2]
    have HC := Lib.hid (fun w => take_any s k w h4)
    rw [e1, e2, e3] at HC
    rw [tkNum_yes hs]
    dsimp only
    generalize bs (s.data.toList.drop k) = R at *
    generalize num (s.data.toList.take k) = V at *
    have c0 := h.c0
    clear h e1 e2 e3 hc hs
    go_enter Tryz.func150, Tryz.ntmps150
    go_wp2_with fail
    go_at_call 171
    refine (HC.out _).mono ?_
    rintro e w1 ⟨rfl, hb⟩
    have HT1 := Lib.hid (HT.out.below hb)
    have HG := Lib.hid (grown_of_below (row := some q) hb)
    have d0 := HT1.out.c0
    have d1 := HT1.out.c1
    have f0 := HT1.out.fr 0
    have f1 := HT1.out.fr 1
    clear hb c0
    cases b
    all_goals
      go_wp2
      go_ret
      exact ⟨rfl, (HT1.out.set0 R).set1 _, grown_then (grown_then HG.out (grown_set _ _ _ _)) (grown_set _ _ _ _)⟩
  · have hc : ¬ (1 ≤ (k : Int) ∧ (k : Int) ≤ 8 ∧ (k : Int).toNat ≤ s.size) := by rintro ⟨_, _, h5⟩; exact hs (by simpa using h5)
    have e1 : tN s k = 0 := by unfold tN; rw [if_neg hc]
    have e2 : tR s k = ByteArray.empty := by unfold tR; rw [if_neg hc]
    have e3 : tE s k = 3 := by unfold tE; rw [if_pos ⟨by omega, by omega⟩, if_neg (by simpa using hs)]
    have HC := Lib.hid (fun w => take_any s k w h4)
    rw [e1, e2, e3] at HC
    rw [tkNum_no hs]
    dsimp only
    rw [bs_nil]
    have c0 := h.c0
    clear h e1 e2 e3 hc hs
    go_enter Tryz.func150, Tryz.ntmps150
    go_wp2_with fail
    go_at_call 171
    refine (HC.out _).mono ?_
    rintro e w1 ⟨rfl, hb⟩
    have HT1 := Lib.hid (HT.out.below hb)
    have HG := Lib.hid (grown_of_below (row := some q) hb)
    have d0 := HT1.out.c0
    have d1 := HT1.out.c1
    have f0 := HT1.out.fr 0
    have f1 := HT1.out.fr 1
    clear hb c0
    cases b
    all_goals
      go_wp2
      go_ret
      exact ⟨rfl, (HT1.out.set0 ByteArray.empty).set1 true, grown_then (grown_then HG.out (grown_set _ _ _ _)) (grown_set _ _ _ _)⟩
theorem tkBytes_no {n : Nat} {s : ByteArray} {b : Bool} (h : s.size < n) : tkBytes n (s.data.toList, b) = ([], ([], true)) := by
  unfold tkBytes; rw [if_pos (show s.data.toList.length < n by rw [Array.length_toList]; exact h)]
theorem tkBytes_yes {n : Nat} {s : ByteArray} {b : Bool} (h : ¬ s.size < n) : tkBytes n (s.data.toList, b) = (s.data.toList.take n, (s.data.toList.drop n, b)) := by
  unfold tkBytes; rw [if_neg (show ¬ s.data.toList.length < n by rw [Array.length_toList]; exact h)]
set_option maxHeartbeats 1000000 in
theorem bytes_tk {w : World} {q : Nat} {s : ByteArray} {b : Bool} (h : TkR w q s b) (n : Nat) :
    Calls Tryz.prog 186 #[.pointer (some ⟨q, 0, none⟩), .int .i64 n] w fun e w' => e = .returned (.string (bs (tkBytes n (s.data.toList, b)).1)) ∧ TkR w' q (bs (tkBytes n (s.data.toList, b)).2.1) (tkBytes n (s.data.toList, b)).2.2 ∧ w.grownBy w' (some q) := by
  have HT := Lib.hid h
  have c0 := h.c0
  have c1 := h.c1
  have f0 := h.fr 0
  have f1 := h.fr 1
  clear h
  by_cases hs : s.size < n
  · rw [tkBytes_no hs]
    dsimp only
    rw [bs_nil]
    have hd : decide (s.size < n) = true := by rw [decide_eq_true_iff]; exact hs
    clear hs
    go_enter Tryz.func186, Tryz.ntmps186
    go_wp2
    go_ret
    exact ⟨rfl, (HT.out.set0 ByteArray.empty).set1 true, grown_then (grown_set _ _ _ _) (grown_set _ _ _ _)⟩
  · have HE := Lib.hid (extract_to s n)
    have HF := Lib.hid (extract_bs s n)
    rw [tkBytes_yes hs]
    dsimp only
    rw [← HE.out, ← HF.out]
    have hd : decide (s.size < n) = false := by rw [decide_eq_false_iff_not]; exact hs
    have hn : n ≤ s.size := by omega
    clear hs HE HF
    go_enter Tryz.func186, Tryz.ntmps186
    go_wp2
    go_ret
    exact ⟨rfl, HT.out.set0 _, grown_set _ _ _ _⟩
end Go.Proofs.YtlpejbbmemhloaaGreatDoor.Nd
