/- Contracts of package node's taking: a number, bytes, a text, a hash, taken off what is left. -/
import Derived.Test.YtlchjohaacbkpaaGreatDoorLs
import Derived.Test.YtlchjohaacbkpaaGreatDoorNdA
import Derived.Test.YtlchjohaacbkpaaGreatDoorZrg
import Derived.Lib.BufferWrite
import Derived.Laws.Rows
namespace Go.Proofs.YtlchjohaacbkpaaGreatDoor.Nd
set_option linter.unusedVariables false
open Go.ChangeShapes Go.WideShapes Go.ChangeAt Go.RowKit
open Pk (be num be_length nB nE numOk take_any tN tR tE)
/-- what is left, in block q -/
def TkR (w : World) (q : Nat) (s : ByteArray) (b : Bool) : Prop := w.heap[q]? = some (.cells #[.string s, .bool b] 139 (0, 0))
theorem TkR.lt {w : World} {q : Nat} {s : ByteArray} {b : Bool} (h : TkR w q s b) : q < w.heap.size := by
  rcases Nat.lt_or_ge q w.heap.size with hl | hg
  · exact hl
  · unfold TkR at h; rw [Array.getElem?_eq_none hg] at h; cases h
theorem TkR.c0 {w : World} {q : Nat} {s : ByteArray} {b : Bool} (h : TkR w q s b) : w.cell? ⟨q, 0, none⟩ = some (.string s) := cell_of_row _ _ 0 _ _ _ h
theorem TkR.c1 {w : World} {q : Nat} {s : ByteArray} {b : Bool} (h : TkR w q s b) : w.cell? ⟨q, 1, none⟩ = some (.bool b) := cell_of_row _ _ 1 _ _ _ h
theorem TkR.fr {w : World} {q : Nat} {s : ByteArray} {b : Bool} (h : TkR w q s b) (o : Nat) : w.frozen? ⟨q, o, none⟩ = false := frozen_of_row _ _ _ _ _ h
theorem TkR.below {w w' : World} {q : Nat} {s : ByteArray} {b : Bool} (h : TkR w q s b) (hb : Below w.heap.size w w') : TkR w' q s b := (hb.block q h.lt).trans h
theorem TkR.set0 {w : World} {q : Nat} {s : ByteArray} {b : Bool} (h : TkR w q s b) (r : ByteArray) : TkR (w.setCell ⟨q, 0, none⟩ (.string r)) q r b := by
  unfold TkR at *; simp [World.setCell, h, Array.getElem?_modify]
theorem TkR.set1 {w : World} {q : Nat} {s : ByteArray} {b : Bool} (h : TkR w q s b) (c : Bool) : TkR (w.setCell ⟨q, 1, none⟩ (.bool c)) q s c := by
  unfold TkR at *; simp [World.setCell, h, Array.getElem?_modify]
theorem grown_of_below {w w' : World} {row : Option Nat} (h : Below w.heap.size w w') : w.grownBy w' row := ⟨h.os, h.tape, h.output, h.size, fun k hk _ => h.block k hk⟩
theorem grown_then {w w1 w2 : World} {q : Nat} (h1 : w.grownBy w1 (some q)) (h2 : w1.grownBy w2 (some q)) : w.grownBy w2 (some q) :=
  ⟨h2.os.trans h1.os, h2.tape.trans h1.tape, h2.output.trans h1.output, Nat.le_trans h1.size h2.size, fun k hk hne => (h2.block k (Nat.lt_of_lt_of_le hk h1.size) hne).trans (h1.block k hk hne)⟩
theorem grown_setCell (w : World) (p : Addr) (u : Value) : w.grownBy (w.setCell p u) (some p.block) :=
  ⟨rfl, rfl, rfl, by simp [World.setCell], fun k hk hne => heap_setCell_other w p k u (fun e => hne (by rw [e]))⟩
/-- a list in memory of the call's own, in blocks from B on -/
theorem grown_set (w : World) (q o : Nat) (u : Value) : w.grownBy (w.setCell ⟨q, o, none⟩ u) (some q) := grown_setCell w ⟨q, o, none⟩ u
theorem extract_bs (s : ByteArray) (k : Nat) : s.extract k s.size = bs (s.data.toList.drop k) := by
  apply ByteArray.ext
  apply Array.toList_inj.1
  rw [ByteArray.data_extract, bs_data, Array.toList_extract, List.extract_eq_take_drop, List.take_of_length_le]
  rw [List.length_drop]
  show s.data.toList.length - k ≤ s.size - k
  rw [Array.length_toList]
  exact Nat.le_refl _
theorem extract_to (s : ByteArray) (k : Nat) : s.extract 0 k = bs (s.data.toList.take k) := by
  apply ByteArray.ext
  apply Array.toList_inj.1
  rw [ByteArray.data_extract, bs_data, Array.toList_extract, List.extract_eq_take_drop]
  simp
theorem tkNum_yes {k : Nat} {s : ByteArray} {b : Bool} (h : k ≤ s.size) : tkNum k (s.data.toList, b) = (num (s.data.toList.take k), (s.data.toList.drop k, b)) := by
  unfold tkNum; rw [if_pos (show k ≤ s.data.toList.length by rw [Array.length_toList]; exact h)]
theorem tkNum_no {k : Nat} {s : ByteArray} {b : Bool} (h : ¬ k ≤ s.size) : tkNum k (s.data.toList, b) = (0, ([], true)) := by
  unfold tkNum; rw [if_neg (show ¬ k ≤ s.data.toList.length by rw [Array.length_toList]; exact h)]
theorem bs_nil : bs [] = ByteArray.empty := rfl
set_option maxHeartbeats 1000000 in
theorem number_tk {w : World} {q : Nat} {s : ByteArray} {b : Bool} (h : TkR w q s b) (k : Nat) (h1 : 1 ≤ k) (h2 : k ≤ 8) (h4 : s.size ≤ maxLen) :
    Calls Tryz.prog 81 #[.pointer (some ⟨q, 0, none⟩), .int .i64 k] w fun e w' => e = .returned (.int .u64 (tkNum k (s.data.toList, b)).1) ∧ TkR w' q (bs (tkNum k (s.data.toList, b)).2.1) (tkNum k (s.data.toList, b)).2.2 ∧ w.grownBy w' (some q) := by
  have HT := Lib.hid h
  by_cases hs : k ≤ s.size
  · have hc : 1 ≤ (k : Int) ∧ (k : Int) ≤ 8 ∧ (k : Int).toNat ≤ s.size := ⟨by omega, by omega, by simpa using hs⟩
    have e1 : tN s k = (num (s.data.toList.take k) : Nat) := by unfold tN; rw [if_pos hc, Int.toNat_natCast]
    have e2 : tR s k = bs (s.data.toList.drop k) := by unfold tR; rw [if_pos hc, Int.toNat_natCast, extract_bs]
    have e3 : tE s k = 0 := by unfold tE; rw [if_pos ⟨hc.1, hc.2.1⟩, if_pos hc.2.2]
    have HC := Lib.hid (fun w => take_any s k w h4)
    rw [e1, e2, e3] at HC
    rw [tkNum_yes hs]
    dsimp only
    generalize bs (s.data.toList.drop k) = R at *
    generalize num (s.data.toList.take k) = V at *
    have c0 := h.c0
    clear h e1 e2 e3 hc hs
    go_enter Tryz.func81, Tryz.ntmps81
    go_wp2_with fail
    go_at_call 119
    refine (HC.out _).mono ?_
    rintro e w1 ⟨rfl, hb⟩
    have HT1 := Lib.hid (HT.out.below hb)
    have HG := Lib.hid (grown_of_below (row := some q) hb)
    have d0 := HT1.out.c0
    have d1 := HT1.out.c1
    have f0 := HT1.out.fr 0
    have f1 := HT1.out.fr 1
    clear hb c0
    cases b
    all_goals
      go_wp2
      go_ret
      exact ⟨rfl, (HT1.out.set0 R).set1 _, grown_then (grown_then HG.out (grown_set _ _ _ _)) (grown_set _ _ _ _)⟩
  · have hc : ¬ (1 ≤ (k : Int) ∧ (k : Int) ≤ 8 ∧ (k : Int).toNat ≤ s.size) := by rintro ⟨_, _, h5⟩; exact hs (by simpa using h5)
    have e1 : tN s k = 0 := by unfold tN; rw [if_neg hc]
    have e2 : tR s k = ByteArray.empty := by unfold tR; rw [if_neg hc]
    have e3 : tE s k = 3 := by unfold tE; rw [if_pos ⟨by omega, by omega⟩, if_neg (by simpa using hs)]
    have HC := Lib.hid (fun w => take_any s k w h4)
    rw [e1, e2, e3] at HC
    rw [tkNum_no hs]
    dsimp only
    rw [bs_nil]
    have c0 := h.c0
    clear h e1 e2 e3 hc hs
    go_enter Tryz.func81, Tryz.ntmps81
    go_wp2_with fail
    go_at_call 119
    refine (HC.out _).mono ?_
    rintro e w1 ⟨rfl, hb⟩
    have HT1 := Lib.hid (HT.out.below hb)
    have HG := Lib.hid (grown_of_below (row := some q) hb)
    have d0 := HT1.out.c0
    have d1 := HT1.out.c1
    have f0 := HT1.out.fr 0
    have f1 := HT1.out.fr 1
    clear hb c0
    cases b
    all_goals
      go_wp2
      go_ret
      exact ⟨rfl, (HT1.out.set0 ByteArray.empty).set1 true, grown_then (grown_then HG.out (grown_set _ _ _ _)) (grown_set _ _ _ _)⟩
theorem tkBytes_no {n : Nat} {s : ByteArray} {b : Bool} (h : s.size < n) : tkBytes n (s.data.toList, b) = ([], ([], true)) := by
  unfold tkBytes; rw [if_pos (show s.data.toList.length < n by rw [Array.length_toList]; exact h)]
theorem tkBytes_yes {n : Nat} {s : ByteArray} {b : Bool} (h : ¬ s.size < n) : tkBytes n (s.data.toList, b) = (s.data.toList.take n, (s.data.toList.drop n, b)) := by
  unfold tkBytes; rw [if_neg (show ¬ s.data.toList.length < n by rw [Array.length_toList]; exact h)]
set_option maxHeartbeats 1000000 in
theorem bytes_tk {w : World} {q : Nat} {s : ByteArray} {b : Bool} (h : TkR w q s b) (n : Nat) :
    Calls Tryz.prog 158 #[.pointer (some ⟨q, 0, none⟩), .int .i64 n] w fun e w' => e = .returned (.string (bs (tkBytes n (s.data.toList, b)).1)) ∧ TkR w' q (bs (tkBytes n (s.data.toList, b)).2.1) (tkBytes n (s.data.toList, b)).2.2 ∧ w.grownBy w' (some q) := by
  have HT := Lib.hid h
  have c0 := h.c0
  have c1 := h.c1
  have f0 := h.fr 0
  have f1 := h.fr 1
  clear h
  by_cases hs : s.size < n
  · rw [tkBytes_no hs]
    dsimp only
    rw [bs_nil]
    have hd : decide (s.size < n) = true := by rw [decide_eq_true_iff]; exact hs
    clear hs
    go_enter Tryz.func158, Tryz.ntmps158
    go_wp2
    go_ret
    exact ⟨rfl, (HT.out.set0 ByteArray.empty).set1 true, grown_then (grown_set _ _ _ _) (grown_set _ _ _ _)⟩
  · have HE := Lib.hid (extract_to s n)
    have HF := Lib.hid (extract_bs s n)
    rw [tkBytes_yes hs]
    dsimp only
    rw [← HE.out, ← HF.out]
    have hd : decide (s.size < n) = false := by rw [decide_eq_false_iff_not]; exact hs
    have hn : n ≤ s.size := by omega
    clear hs HE HF
    go_enter Tryz.func158, Tryz.ntmps158
    go_wp2
    go_ret
    exact ⟨rfl, HT.out.set0 _, grown_set _ _ _ _⟩
end Go.Proofs.YtlchjohaacbkpaaGreatDoor.Nd
/- Contracts of package node's taking: a text, a hash. -/
namespace Go.Proofs.YtlchjohaacbkpaaGreatDoor.Nd
set_option linter.unusedVariables false
open Go.ChangeShapes Go.WideShapes Go.ChangeAt Go.RowKit
open Rg
open Pk (be num be_length num_lt u8s u8s_length)
theorem wpList_copy_str {P : Program} {ops : Array Oper} {rest : List Oper} {o : Oper} {a : Act} {w : World} {Q : Exit → Act → World → Prop}
    (hgd : o.guard = none) (d x : Operand) (dT sT : TypeId) (hop : o.op = Op.call { callee := Callee.builtin Builtin.copy, args := #[d, x], argTypes := #[dT, sT] })
    (elem : TypeId) (hu : P.underlying dT = some (.slice elem)) (hs : (P.info? elem).map (·.size) = some 1) (g dLen dCap : Nat) (hd : a.eval d = .slice (some ⟨g, 0, none⟩) dLen dCap) (s : ByteArray) (hx : a.eval x = .string s)
    (cur : Array Value) (t : TypeId) (hg : w.heap[g]? = some (.cells cur t (0, 0))) (hle : s.size ≤ dLen) (hfit : s.size ≤ cur.size)
    (hK : wpList P ops Q rest (a.put o.dst (goInt s.size)) (w.setRow g (cur.toList.take 0 ++ Lib.byteCells s.data.toList ++ cur.toList.drop (0 + s.size)).toArray)) :
    wpList P ops Q (o :: rest) a w := by
  refine wpList_plain hgd fun K hK' => ?_
  have hrun := Lib.run_copy_row_string (P := P) w dT sT o.type elem g 0 dLen dCap s cur t hu hs hg hle (by omega)
  unfold Oper.wp
  simp [execOp, hop, resolve, invoke, builtin, hd, hx, hrun, Result.andThen]
  exact hK' _ _ (by simpa using hK)
theorem num_less (k : Nat) (s : S) : (tkNum k s).2.1.length ≤ s.1.length := by
  unfold tkNum; split
  · rw [List.length_drop]; omega
  · exact Nat.zero_le _
theorem bytes_less (k : Nat) (s : S) : (tkBytes k s).2.1.length ≤ s.1.length := by
  unfold tkBytes; split
  · exact Nat.zero_le _
  · rw [List.length_drop]; omega
theorem txt_less (s : S) : (tkTxt s).2.1.length ≤ s.1.length := Nat.le_trans (bytes_less _ _) (num_less _ _)
theorem hash_less (s : S) : (tkHash s).2.1.length ≤ s.1.length := bytes_less _ _
theorem num_byte (s : S) : (tkNum 1 s).1 < 256 := by
  unfold tkNum; split
  · have := num_lt (s.1.take 1)
    have h2 : (s.1.take 1).length ≤ 1 := by rw [List.length_take]; omega
    have h3 := Nat.pow_le_pow_right (show 256 > 0 by omega) h2
    omega
  · exact (by omega : 0 < 256)
theorem S_bs (p : S) : ((bs p.1).data.toList, p.2) = p := rfl
set_option maxHeartbeats 1000000 in
theorem text_tk {w : World} {q : Nat} {s : ByteArray} {b : Bool} (h : TkR w q s b) (h4 : s.size ≤ maxLen) :
    Calls Tryz.prog 122 #[.pointer (some ⟨q, 0, none⟩)] w fun e w' => e = .returned (.string (bs (tkTxt (s.data.toList, b)).1)) ∧ TkR w' q (bs (tkTxt (s.data.toList, b)).2.1) (tkTxt (s.data.toList, b)).2.2 ∧ w.grownBy w' (some q) := by
  have HT := Lib.hid h
  have hv := num_byte (s.data.toList, b)
  have HX := Lib.hid (show tkTxt (s.data.toList, b) = tkBytes (tkNum 1 (s.data.toList, b)).1 ((bs (tkNum 1 (s.data.toList, b)).2.1).data.toList, (tkNum 1 (s.data.toList, b)).2.2) from rfl)
  rw [HX.out]
  have HN := Lib.hid (number_tk h 1 (by omega) (by omega) h4)
  clear h HX
  generalize (tkNum 1 (s.data.toList, b)).1 = V at *
  generalize bs (tkNum 1 (s.data.toList, b)).2.1 = R at *
  generalize (tkNum 1 (s.data.toList, b)).2.2 = B at *
  go_enter Tryz.func122, Tryz.ntmps122
  go_wp2_with fail
  go_at_call 81
  refine HN.out.mono ?_
  rintro e w1 ⟨rfl, ht, hg⟩
  have HT1 := Lib.hid ht
  have HG := Lib.hid hg
  clear ht hg
  go_wp2_with fail
  go_at_call 158
  refine (bytes_tk HT1.out V).mono ?_
  rintro e w2 ⟨rfl, ht, hg⟩
  have HT2 := Lib.hid ht
  have HG2 := Lib.hid (grown_then HG.out hg)
  clear ht hg
  go_wp2_with fail
  go_ret
  exact ⟨rfl, HT2.out, HG2.out⟩
theorem two_new (w : World) (c1 c2 : Array Value) (t1 t2 : TypeId) : ((w.alloc (.cells c1 t1)).alloc (.cells c2 t2)).heap[w.heap.size]? = some (.cells c1 t1 (0, 0)) ∧ ((w.alloc (.cells c1 t1)).alloc (.cells c2 t2)).heap[w.heap.size + 1]? = some (.cells c2 t2 (0, 0)) ∧
    Below w.heap.size w ((w.alloc (.cells c1 t1)).alloc (.cells c2 t2)) ∧ ((w.alloc (.cells c1 t1)).alloc (.cells c2 t2)).heap.size = w.heap.size + 2 := by
  refine ⟨?_, ?_, ((Below.refl _ _).alloc (Nat.le_refl _) _).alloc (by simp) _, by simp⟩
  · have h1 := heap_alloc_new w (.cells c1 t1)
    have h2 : Below (w.heap.size + 1) (w.alloc (.cells c1 t1)) ((w.alloc (.cells c1 t1)).alloc (.cells c2 t2)) := (Below.refl _ _).alloc (by simp) _
    exact (h2.block _ (Nat.lt_succ_self _)).trans h1
  · have h1 := heap_alloc_new (w.alloc (.cells c1 t1)) (.cells c2 t2)
    simpa using h1
theorem setRow_heap' {w : World} {g : Nat} {cs old : Array Value} {t : TypeId} {f : Nat × Nat} (h : w.heap[g]? = some (.cells old t f)) : (w.setRow g cs).heap[g]? = some (.cells cs t f) := setRow_heap w g old cs t f h
theorem grown_setRow (w : World) (g : Nat) (cs : Array Value) : w.grownBy (w.setRow g cs) (some g) :=
  ⟨rfl, rfl, rfl, by simp [World.setRow], fun k hk hne => by
    simp only [World.setRow, Array.getElem?_modify]
    rw [if_neg (fun e => hne (by rw [e]))]⟩
/-- what is new is put over as well -/
theorem grown_new {w w1 w2 : World} {q g : Nat} (h1 : w.grownBy w1 (some q)) (h2 : w1.grownBy w2 (some g)) (hg : w.heap.size ≤ g) : w.grownBy w2 (some q) :=
  ⟨h2.os.trans h1.os, h2.tape.trans h1.tape, h2.output.trans h1.output, Nat.le_trans h1.size h2.size, fun k hk hne => (h2.block k (Nat.lt_of_lt_of_le hk h1.size) (fun e => by have := Option.some.inj e; omega)).trans (h1.block k hk hne)⟩
abbrev zH : Array Value := #[.int .u8 0, .int .u8 0, .int .u8 0, .int .u8 0, .int .u8 0, .int .u8 0, .int .u8 0, .int .u8 0, .int .u8 0, .int .u8 0, .int .u8 0, .int .u8 0, .int .u8 0, .int .u8 0, .int .u8 0, .int .u8 0, .int .u8 0, .int .u8 0, .int .u8 0, .int .u8 0, .int .u8 0, .int .u8 0, .int .u8 0, .int .u8 0, .int .u8 0, .int .u8 0, .int .u8 0, .int .u8 0, .int .u8 0, .int .u8 0, .int .u8 0, .int .u8 0]
theorem row_lt {w : World} {b : Nat} {o : Obj} (h : w.heap[b]? = some o) : b < w.heap.size := by
  rcases Nat.lt_or_ge b w.heap.size with hl | hg
  · exact hl
  · rw [Array.getElem?_eq_none hg] at h; cases h
theorem zH_u8s : zH = (u8s (List.replicate 32 0)).toArray := by kernel_rfl
theorem infoH {l : List UInt8} (h : l.length = 32) : (Tryz.prog.info? 42).map (·.size) = some (u8s l).toArray.size := by
  rw [List.size_toArray, u8s_length, h]; kernel_rfl
theorem info8 : (Tryz.prog.info? 5).map (·.size) = some 1 := by kernel_rfl
theorem u8s_one (l : List UInt8) : (u8s l).toArray.all (·.oneCell') = true := by
  rw [Array.all_eq_true']
  intro v hv
  have hv := List.mem_toArray.1 hv
  unfold u8s at hv
  obtain ⟨b, _, rfl⟩ := List.mem_map.1 hv
  rfl
theorem bytes_copied (l : List UInt8) (h : l.length ≤ 32) : (zH.toList.take 0 ++ Lib.byteCells l ++ zH.toList.drop (0 + l.length)).toArray = (u8s (l ++ List.replicate (32 - l.length) 0)).toArray := by
  rw [zH_u8s]
  congr 1
  rw [List.take_zero, List.nil_append, Nat.zero_add]
  unfold u8s Lib.byteCells
  rw [List.map_append, ← List.map_drop, List.drop_replicate]
theorem tkBytes_len (n : Nat) (s : S) : (tkBytes n s).1.length ≤ n := by
  unfold tkBytes; split
  · exact Nat.zero_le _
  · rw [List.length_take]; omega
theorem tkHash_len (s : S) : (tkHash s).1.length = 32 := by
  unfold tkHash
  have := tkBytes_len 32 s
  rw [List.length_append, List.length_replicate]; omega
set_option maxRecDepth 100000 in
set_option maxHeartbeats 2000000 in
theorem hash_tk {w : World} {q : Nat} {s : ByteArray} {b : Bool} (h : TkR w q s b) :
    Calls Tryz.prog 123 #[.pointer (some ⟨q, 0, none⟩)] w fun e w' => e = .returned (.agg (u8s (tkHash (s.data.toList, b)).1).toArray) ∧ TkR w' q (bs (tkHash (s.data.toList, b)).2.1) (tkHash (s.data.toList, b)).2.2 ∧ w.grownBy w' (some q) := by
  obtain ⟨R1, R2, S0, Z0⟩ := two_new w zH zH 42 42
  have hq := h.lt
  have HR1 := Lib.hid R1
  have HR2 := Lib.hid R2
  have HT := Lib.hid (h.below S0)
  have HG := Lib.hid (grown_of_below (row := some q) S0)
  have HZ := Lib.hid Z0
  clear R1 R2 S0 Z0 h
  have hlen := tkBytes_len 32 (s.data.toList, b)
  have hX : tkHash (s.data.toList, b) = ((tkBytes 32 (s.data.toList, b)).1 ++ List.replicate (32 - (tkBytes 32 (s.data.toList, b)).1.length) 0, (tkBytes 32 (s.data.toList, b)).2) := rfl
  have HBT := Lib.hid (show ∀ w, TkR w q s b → _ from fun w h => bytes_tk h 32)
  rw [hX]
  clear hX
  dsimp only
  generalize (tkBytes 32 (s.data.toList, b)).1 = L at *
  generalize bs (tkBytes 32 (s.data.toList, b)).2.1 = R at *
  generalize (tkBytes 32 (s.data.toList, b)).2.2 = B at *
  have HL2 := Lib.hid (show (L ++ List.replicate (32 - L.length) 0).length = 32 by rw [List.length_append, List.length_replicate]; omega)
  have HCP := Lib.hid (show (zH.toList.take 0 ++ Lib.byteCells (bs L).data.toList ++ zH.toList.drop (0 + (bs L).size)).toArray = (u8s (L ++ List.replicate (32 - L.length) 0)).toArray by rw [bs_data, bs_size]; exact bytes_copied L hlen)
  generalize L ++ List.replicate (32 - L.length) 0 = H at *
  have HLN := Lib.hid hlen
  clear hlen
  go_enter Tryz.func123, Tryz.ntmps123
  go_wp2_with fail
  generalize (w.alloc _).alloc _ = W2 at *
  have HQ1 := Lib.hid (show q ≠ w.heap.size from Nat.ne_of_lt hq)
  have HQ2 := Lib.hid (show q ≠ w.heap.size + 1 by omega)
  refine wp_region_T (fun w' : World => True) 3 (by kernel_rfl) (by kernel_rfl) ?_
  have hS : True := trivial
  have HT' := Lib.hid (show TkR W2.drew q s b from HT.out)
  refine take_T 0 4 (.slice (some ⟨w.heap.size + 1, 0, none⟩) 32 32) rfl (by rfl) (by kernel_rfl) (by decide) (by kernel_rfl) (by kernel_rfl) (by kernel_rfl) (fun _ _ _ h => h) (Or.inl ⟨by rfl, fun w' hSw => by go_simp⟩) hS ?_
  simp only [List.setIfInBounds_toArray, List.set_cons_zero, List.set_cons_succ]
  refine take_T 1 5 (.pointer (some ⟨q, 0, none⟩)) rfl (by rfl) (by kernel_rfl) (by decide) (by kernel_rfl) (by kernel_rfl) (by kernel_rfl) (fun _ _ _ h => h) (Or.inl ⟨by rfl, fun w' hSw => by go_simp⟩) hS ?_
  simp only [List.setIfInBounds_toArray, List.set_cons_zero, List.set_cons_succ]
  refine only_T 2 rfl (by kernel_rfl) (by decide) (by rfl) (fun K hK => ?_)
  go_wp2_with fail
  go_at_call 158
  refine (HBT.out _ HT'.out).mono ?_
  rintro e w3 ⟨rfl, ht, hg⟩
  have HT3 := Lib.hid ht
  have HG3 := Lib.hid (grown_then HG.out (grown_then (grown_of_below (row := some q) (Below.refl _ _).drew) hg))
  have HQ := Lib.hid ((hg.block w.heap.size (row_lt (show W2.drew.heap[w.heap.size]? = _ from HR1.out)) (fun e => HQ1.out (Option.some.inj e).symm)).trans HR1.out)
  have HH := Lib.hid ((hg.block (w.heap.size + 1) (row_lt (show W2.drew.heap[w.heap.size + 1]? = _ from HR2.out)) (fun e => HQ2.out (Option.some.inj e).symm)).trans HR2.out)
  clear ht hg HT HT' HR1 HR2 HG
  have hS2 : True := trivial
  refine hK.out _ _ hS2 ?_
  clear hK K
  try simp only [Act.put, List.setIfInBounds_toArray, List.set_cons_zero, List.set_cons_succ]
  refine done_T (by kernel_rfl) ?_
  simp only [List.drop_succ_cons, List.drop_zero]
  have hsz : (bs L).size ≤ 32 := by rw [bs_size]; exact HLN.out
  have HI := Lib.hid (infoH HL2.out)
  have hO : (u8s H).toArray.size = 32 := by rw [List.size_toArray, u8s_length, HL2.out]
  have HO := Lib.hid (show zH.size = (u8s H).toArray.size from (show zH.size = 32 from rfl).trans hO.symm)
  clear hO
  generalize hC : (u8s H).toArray = C at *
  have HONE := Lib.hid (show C.all (·.oneCell') = true by rw [← hC]; exact u8s_one H)
  have HCC := Lib.hid hC
  clear hC
  go_wp2_with (first
    | (refine wpList_copy_str rfl (.tmp 4) (.tmp 6) 54 9 rfl 5 Tryz.underlying54 info8 (w.heap.size + 1) 32 32 rfl (bs L) rfl zH 42 HH.out hsz hsz ?_; rw [HCP.out]; have HH4 := Lib.hid (setRow_heap' (cs := C) HH.out); have HQ4 := Lib.hid (((grown_setRow w3 (w.heap.size + 1) C).block w.heap.size (row_lt HQ.out) (fun e => by have := Option.some.inj e; omega)).trans HQ.out); have HT4 := Lib.hid (show TkR (w3.setRow (w.heap.size + 1) C) q R B from ((grown_setRow w3 (w.heap.size + 1) C).block q (row_lt HT3.out) (fun e => HQ2.out (Option.some.inj e))).trans HT3.out); have HG4 := Lib.hid (grown_new HG3.out (grown_setRow w3 (w.heap.size + 1) C) (by omega)); generalize w3.setRow (w.heap.size + 1) C = w4 at *)
    | (refine wpList_load_row rfl 42 (.tmp 3) rfl (w.heap.size + 1) rfl 42 C (0, 0) _ HH4.out Tryz.underlying42 rfl HI.out ?_)
    | (refine wpList_store_row rfl 42 (.tmp 2) (.tmp 8) rfl w.heap.size C rfl rfl 42 zH HQ4.out HI.out HO.out HONE.out ?_))
  have hg2 := setRow_heap' (cs := C) HQ4.out
  refine bodyPost_ret (v := .agg C) (results_cell_row rfl _ _ w.heap.size 42 C (0, 0) _ rfl hg2 Tryz.underlying42 rfl HI.out) rfl ?_
  refine ⟨by rw [HCC.out], ((grown_setRow w4 w.heap.size C).block q (row_lt HT4.out) (fun e => HQ1.out (Option.some.inj e))).trans HT4.out, grown_new HG4.out (grown_setRow w4 w.heap.size C) (Nat.le_refl _)⟩
end Go.Proofs.YtlchjohaacbkpaaGreatDoor.Nd
/- Contracts of package node's taking: an item, a kid, a volume. -/
namespace Go.Proofs.YtlchjohaacbkpaaGreatDoor.Nd
set_option linter.unusedVariables false
open Go.ChangeShapes Go.WideShapes Go.ChangeAt Go.RowKit
open Rg
open Pk (be num be_length num_lt u8s u8s_length)
theorem bs_le {l : List UInt8} {s : ByteArray} (h : l.length ≤ s.data.toList.length) (h4 : s.size ≤ maxLen) : (bs l).size ≤ maxLen := by
  rw [bs_size]
  have e : s.data.toList.length = s.size := Array.length_toList
  omega
theorem two_cells (a b : Value) (ha : a.oneCell' = true) (hb : b.oneCell' = true) : (#[a, b] : Array Value).all (·.oneCell') = true := by simp [ha, hb]
set_option maxHeartbeats 2000000 in
theorem item_tk {w : World} {q : Nat} {s : ByteArray} {b : Bool} (h : TkR w q s b) (h4 : s.size ≤ maxLen) :
    Calls Tryz.prog 83 #[.pointer (some ⟨q, 0, none⟩)] w fun e w' => e = .returned (.agg #[.string (cI.tk (s.data.toList, b)).1.k, .string (cI.tk (s.data.toList, b)).1.v]) ∧ TkR w' q (bs (cI.tk (s.data.toList, b)).2.1) (cI.tk (s.data.toList, b)).2.2 ∧ w.grownBy w' (some q) := by
  have S0 : Below w.heap.size w (w.alloc (.cells #[.string ⟨#[]⟩, .string ⟨#[]⟩] 88)) := (Below.refl _ _).alloc (Nat.le_refl _) _
  have hq := h.lt
  have HQ := Lib.hid (heap_alloc_new w (.cells #[.string ⟨#[]⟩, .string ⟨#[]⟩] 88))
  have HT := Lib.hid (h.below S0)
  have HG := Lib.hid (grown_of_below (row := some q) S0)
  clear h S0
  have hX : cI.tk (s.data.toList, b) = (⟨bs (tkTxt (s.data.toList, b)).1, bs (tkTxt ((bs (tkTxt (s.data.toList, b)).2.1).data.toList, (tkTxt (s.data.toList, b)).2.2)).1⟩, (tkTxt ((bs (tkTxt (s.data.toList, b)).2.1).data.toList, (tkTxt (s.data.toList, b)).2.2)).2) := rfl
  rw [hX]
  dsimp only
  clear hX
  have h5 := bs_le (txt_less (s.data.toList, b)) h4
  have HC1 := Lib.hid (show ∀ w, TkR w q s b → _ from fun w h => text_tk h h4)
  generalize bs (tkTxt (s.data.toList, b)).1 = V1 at *
  generalize bs (tkTxt (s.data.toList, b)).2.1 = R1 at *
  generalize (tkTxt (s.data.toList, b)).2.2 = B1 at *
  have HC2 := Lib.hid (show ∀ w, TkR w q R1 B1 → _ from fun w h => text_tk h h5)
  generalize bs (tkTxt (R1.data.toList, B1)).1 = V2 at *
  generalize bs (tkTxt (R1.data.toList, B1)).2.1 = R2 at *
  generalize (tkTxt (R1.data.toList, B1)).2.2 = B2 at *
  clear h4 h5
  go_enter Tryz.func83, Tryz.ntmps83
  go_wp2_with fail
  generalize w.alloc _ = w1 at *
  go_at_call 122
  refine (HC1.out _ HT.out).mono ?_
  rintro e w2 ⟨rfl, ht, hg⟩
  have HT2 := Lib.hid ht
  have HQ2 := Lib.hid ((hg.block w.heap.size (row_lt HQ.out) (fun e => Nat.ne_of_lt hq (Option.some.inj e).symm)).trans HQ.out)
  have HG2 := Lib.hid (grown_then HG.out hg)
  clear ht hg HT HQ HG
  go_wp2_with fail
  go_at_call 122
  refine (HC2.out _ HT2.out).mono ?_
  rintro e w3 ⟨rfl, ht, hg⟩
  have HT3 := Lib.hid ht
  have HQ3 := Lib.hid ((hg.block w.heap.size (row_lt HQ2.out) (fun e => Nat.ne_of_lt hq (Option.some.inj e).symm)).trans HQ2.out)
  have HG3 := Lib.hid (grown_then HG2.out hg)
  clear ht hg HT2 HQ2 HG2
  go_wp2_with (refine wpList_store_row rfl 88 (.tmp 2) (.tmp 7) rfl w.heap.size #[.string V1, .string V2] rfl rfl 88 #[.string ⟨#[]⟩, .string ⟨#[]⟩] HQ3.out (by kernel_rfl) rfl (two_cells _ _ rfl rfl) ?_)
  have hg2 := setRow_heap' (cs := #[.string V1, .string V2]) HQ3.out
  refine bodyPost_ret (v := .agg #[.string V1, .string V2]) (results_cell_row rfl _ _ w.heap.size 88 #[.string V1, .string V2] (0, 0) _ rfl hg2 Tryz.underlying88 rfl (by kernel_rfl)) rfl ?_
  exact ⟨rfl, ((grown_setRow w3 w.heap.size _).block q (row_lt HT3.out) (fun e => Nat.ne_of_lt hq (Option.some.inj e))).trans HT3.out, grown_new HG3.out (grown_setRow w3 w.heap.size _) (Nat.le_refl _)⟩
theorem pair_tk {α β : Type} {A : Cod α} {B : Cod β} {s s1 s2 : S} {x : α} {y : β} (h1 : A.tk s = (x, s1)) (h2 : B.tk s1 = (y, s2)) : (A.pair B).tk s = ((x, y), s2) := by
  show (((A.tk s).1, (B.tk (A.tk s).2).1), (B.tk (A.tk s).2).2) = _
  rw [h1]; dsimp only; rw [h2]
theorem as_tk {α β : Type} {A : Cod α} {f : α → β} {g : β → α} {s s1 : S} {x : α} (h : A.tk s = (x, s1)) : (A.as f g).tk s = (f x, s1) := by
  show (f (A.tk s).1, (A.tk s).2) = _
  rw [h]
theorem fold_put : ∀ (vs zs pre : List Value) (p k : Nat), zs.length = vs.length → pre.length = p + k → List.foldl (fun (cs : Array Value) (x : Value × Nat) => cs.setIfInBounds (p + x.snd) x.fst) (pre ++ zs).toArray (vs.zipIdx k) = (pre ++ vs).toArray
  | [], [], pre, p, k, _, _ => rfl
  | [], z :: zs, pre, p, k, h, _ => by cases h
  | v :: vs, [], pre, p, k, h, _ => by cases h
  | v :: vs, z :: zs, pre, p, k, h, hp => by
    rw [List.zipIdx_cons, List.foldl_cons]
    have e : (pre ++ z :: zs).toArray.setIfInBounds (p + k) v = ((pre ++ [v]) ++ zs).toArray := by
      rw [List.setIfInBounds_toArray, List.set_append_right _ _ (by omega), show p + k - pre.length = 0 by omega, List.set_cons_zero, List.append_assoc]; rfl
    show List.foldl _ ((pre ++ z :: zs).toArray.setIfInBounds (p + k) v) _ = _
    rw [e, fold_put vs zs (pre ++ [v]) p (k + 1) (by simpa using h) (by rw [List.length_append, List.length_singleton]; omega), List.append_assoc]; rfl
theorem num_width (k : Nat) (s : S) : (tkNum k s).1 < 256 ^ k := by
  unfold tkNum; split
  · have := num_lt (s.1.take k)
    have h2 : (s.1.take k).length = k := by rw [List.length_take]; omega
    rwa [h2] at this
  · exact Nat.pow_pos (by omega)
def encK (x : Kd) : List Value := .string x.k :: .int .u32 x.n :: u8s x.hs
def encV (x : Vo) : List Value := .string x.nm :: .int .u8 x.kd :: .string x.fr :: .int .u64 x.bn :: .int .u32 x.rt :: u8s x.hs
set_option maxRecDepth 100000 in
set_option maxHeartbeats 4000000 in
theorem kid_tk_at {w : World} {q : Nat} {L0 : List UInt8} {B0 : Bool} (h : TkR w q (bs L0) B0) (hm0 : (bs L0).size ≤ maxLen) :
    Calls Tryz.prog 84 #[.pointer (some ⟨q, 0, none⟩)] w fun e w' => e = .returned (.agg (encK (cK.tk (L0, B0)).1).toArray) ∧ TkR w' q (bs (cK.tk (L0, B0)).2.1) (cK.tk (L0, B0)).2.2 ∧ w.grownBy w' (some q) := by
  have S0 : Below w.heap.size w (w.alloc (.cells #[.string ⟨#[]⟩, .int .u32 0, .int .u8 0, .int .u8 0, .int .u8 0, .int .u8 0, .int .u8 0, .int .u8 0, .int .u8 0, .int .u8 0, .int .u8 0, .int .u8 0, .int .u8 0, .int .u8 0, .int .u8 0, .int .u8 0, .int .u8 0, .int .u8 0, .int .u8 0, .int .u8 0, .int .u8 0, .int .u8 0, .int .u8 0, .int .u8 0, .int .u8 0, .int .u8 0, .int .u8 0, .int .u8 0, .int .u8 0, .int .u8 0, .int .u8 0, .int .u8 0, .int .u8 0, .int .u8 0] 83)) := (Below.refl _ _).alloc (Nat.le_refl _) _
  have hq := h.lt
  have HQ0 := Lib.hid (heap_alloc_new w (.cells #[.string ⟨#[]⟩, .int .u32 0, .int .u8 0, .int .u8 0, .int .u8 0, .int .u8 0, .int .u8 0, .int .u8 0, .int .u8 0, .int .u8 0, .int .u8 0, .int .u8 0, .int .u8 0, .int .u8 0, .int .u8 0, .int .u8 0, .int .u8 0, .int .u8 0, .int .u8 0, .int .u8 0, .int .u8 0, .int .u8 0, .int .u8 0, .int .u8 0, .int .u8 0, .int .u8 0, .int .u8 0, .int .u8 0, .int .u8 0, .int .u8 0, .int .u8 0, .int .u8 0, .int .u8 0, .int .u8 0] 83))
  have HT0 := Lib.hid (h.below S0)
  have HG0 := Lib.hid (grown_of_below (row := some q) S0)
  clear h S0
  obtain ⟨V1, ⟨L1, B1⟩, e1⟩ : ∃ V s, tkTxt (L0, B0) = (V, s) := ⟨_, _, rfl⟩
  have l1 := txt_less (L0, B0)
  rw [e1] at l1
  have hm1 : (bs L1).size ≤ maxLen := bs_le (s := bs L0) l1 hm0
  have HC1 := Lib.hid (show ∀ w, TkR w q (bs L0) B0 → Calls Tryz.prog 122 #[.pointer (some ⟨q, 0, none⟩)] w fun e w' => e = .returned (.string (bs V1)) ∧ TkR w' q (bs L1) B1 ∧ w.grownBy w' (some q) from fun w h => by
    have c := text_tk h hm0
    rw [bs_data, e1] at c
    exact c)
  obtain ⟨V2, ⟨L2, B2⟩, e2⟩ : ∃ V s, tkNum 4 (L1, B1) = (V, s) := ⟨_, _, rfl⟩
  have l2 := num_less 4 (L1, B1)
  rw [e2] at l2
  have hm2 : (bs L2).size ≤ maxLen := bs_le (s := bs L1) l2 hm1
  have v2 := num_width 4 (L1, B1)
  rw [e2] at v2
  have HC2 := Lib.hid (show ∀ w, TkR w q (bs L1) B1 → Calls Tryz.prog 81 #[.pointer (some ⟨q, 0, none⟩), .int .i64 4] w fun e w' => e = .returned (.int .u64 (V2 : Nat)) ∧ TkR w' q (bs L2) B2 ∧ w.grownBy w' (some q) from fun w h => by
    have c := number_tk h 4 (by omega) (by omega) hm1
    rw [bs_data, e2] at c
    exact c)
  obtain ⟨V3, ⟨L3, B3⟩, e3⟩ : ∃ V s, tkHash (L2, B2) = (V, s) := ⟨_, _, rfl⟩
  have l3 := hash_less (L2, B2)
  rw [e3] at l3
  have hm3 : (bs L3).size ≤ maxLen := bs_le (s := bs L2) l3 hm2
  have v3 := tkHash_len (L2, B2)
  rw [e3] at v3
  have HC3 := Lib.hid (show ∀ w, TkR w q (bs L2) B2 → Calls Tryz.prog 123 #[.pointer (some ⟨q, 0, none⟩)] w fun e w' => e = .returned (.agg (u8s V3).toArray) ∧ TkR w' q (bs L3) B3 ∧ w.grownBy w' (some q) from fun w h => by
    have c := hash_tk h
    rw [bs_data, e3] at c
    exact c)
  have hX : cK.tk (L0, B0) = (⟨bs V1, V2, V3⟩, (L3, B3)) := as_tk (A := cTxt.pair ((cNum 4).pair cHash)) (pair_tk (A := cTxt) e1 (pair_tk (A := cNum 4) (B := cHash) e2 e3))
  rw [hX]
  dsimp only
  clear hX e1 l1 e2 l2 e3 l3 hm0 hm1 hm2 hm3
  generalize bs V1 = V1 at *
  have HI := Lib.hid (show (Tryz.prog.info? 83).map (·.size) = some ((Value.string V1 :: Value.int .u32 (V2 : Int) :: u8s V3).toArray).size by rw [List.size_toArray]; simp only [List.length_cons, u8s_length, v3]; kernel_rfl)
  have HO := Lib.hid (show (#[.string ⟨#[]⟩, .int .u32 0, .int .u8 0, .int .u8 0, .int .u8 0, .int .u8 0, .int .u8 0, .int .u8 0, .int .u8 0, .int .u8 0, .int .u8 0, .int .u8 0, .int .u8 0, .int .u8 0, .int .u8 0, .int .u8 0, .int .u8 0, .int .u8 0, .int .u8 0, .int .u8 0, .int .u8 0, .int .u8 0, .int .u8 0, .int .u8 0, .int .u8 0, .int .u8 0, .int .u8 0, .int .u8 0, .int .u8 0, .int .u8 0, .int .u8 0, .int .u8 0, .int .u8 0, .int .u8 0] : Array Value).size = ((Value.string V1 :: Value.int .u32 (V2 : Int) :: u8s V3).toArray).size by simp only [List.size_toArray, List.length_cons, u8s_length, v3]; rfl)
  have HONE := Lib.hid (show ((Value.string V1 :: Value.int .u32 (V2 : Int) :: u8s V3).toArray).all (·.oneCell') = true by have := u8s_one V3; simpa [Array.all_eq_true', Value.oneCell'] using this)
  have hFP : List.foldl (fun (cs : Array Value) (x : Value × Nat) => cs.setIfInBounds (2 + x.snd) x.fst) #[.string V1, .int .u32 (V2 : Int), .int .u8 0, .int .u8 0, .int .u8 0, .int .u8 0, .int .u8 0, .int .u8 0, .int .u8 0, .int .u8 0, .int .u8 0, .int .u8 0, .int .u8 0, .int .u8 0, .int .u8 0, .int .u8 0, .int .u8 0, .int .u8 0, .int .u8 0, .int .u8 0, .int .u8 0, .int .u8 0, .int .u8 0, .int .u8 0, .int .u8 0, .int .u8 0, .int .u8 0, .int .u8 0, .int .u8 0, .int .u8 0, .int .u8 0, .int .u8 0, .int .u8 0, .int .u8 0] (u8s V3).zipIdx = (Value.string V1 :: Value.int .u32 (V2 : Int) :: u8s V3).toArray := fold_put (u8s V3) (u8s (List.replicate 32 0)) [.string V1, .int .u32 (V2 : Int)] 2 0 (by rw [u8s_length, u8s_length, List.length_replicate, v3]) rfl
  generalize hCC : (Value.string V1 :: Value.int .u32 (V2 : Int) :: u8s V3).toArray = CC at *
  have HFP := Lib.hid hFP
  have HCC := Lib.hid hCC
  clear hFP hCC
  go_enter Tryz.func84, Tryz.ntmps84
  go_wp2_with fail
  generalize w.alloc _ = w0 at *
  go_at_call 122
  refine (HC1.out _ HT0.out).mono ?_
  rintro e w1 ⟨rfl, ht, hg⟩
  have HT1 := Lib.hid ht
  have HQ1 := Lib.hid ((hg.block w.heap.size (row_lt HQ0.out) (fun e => Nat.ne_of_lt hq (Option.some.inj e).symm)).trans HQ0.out)
  have HG1 := Lib.hid (grown_then HG0.out hg)
  clear ht hg HT0 HQ0 HG0
  go_wp2_with fail
  go_at_call 81
  refine (HC2.out _ HT1.out).mono ?_
  rintro e w2 ⟨rfl, ht, hg⟩
  have HT2 := Lib.hid ht
  have HQ2 := Lib.hid ((hg.block w.heap.size (row_lt HQ1.out) (fun e => Nat.ne_of_lt hq (Option.some.inj e).symm)).trans HQ1.out)
  have HG2 := Lib.hid (grown_then HG1.out hg)
  clear ht hg HT1 HQ1 HG1
  go_wp2_with fail
  go_at_call 123
  refine (HC3.out _ HT2.out).mono ?_
  rintro e w3 ⟨rfl, ht, hg⟩
  have HT3 := Lib.hid ht
  have HQ3 := Lib.hid ((hg.block w.heap.size (row_lt HQ2.out) (fun e => Nat.ne_of_lt hq (Option.some.inj e).symm)).trans HQ2.out)
  have HG3 := Lib.hid (grown_then HG2.out hg)
  clear ht hg HT2 HQ2 HG2
  have hfp := HFP.out
  have hz1 : (u8s V3).length = 32 := by rw [u8s_length, v3]
  have hz2 : V3.length = 32 := v3
  go_wp2_with (refine wpList_store_row rfl 83 (.tmp 2) (.tmp 10) rfl w.heap.size CC rfl rfl 83 #[.string ⟨#[]⟩, .int .u32 0, .int .u8 0, .int .u8 0, .int .u8 0, .int .u8 0, .int .u8 0, .int .u8 0, .int .u8 0, .int .u8 0, .int .u8 0, .int .u8 0, .int .u8 0, .int .u8 0, .int .u8 0, .int .u8 0, .int .u8 0, .int .u8 0, .int .u8 0, .int .u8 0, .int .u8 0, .int .u8 0, .int .u8 0, .int .u8 0, .int .u8 0, .int .u8 0, .int .u8 0, .int .u8 0, .int .u8 0, .int .u8 0, .int .u8 0, .int .u8 0, .int .u8 0, .int .u8 0] HQ3.out HI.out HO.out HONE.out ?_)
  have hg2 := setRow_heap' (cs := CC) HQ3.out
  refine bodyPost_ret (v := .agg CC) (results_cell_row rfl _ _ w.heap.size 83 CC (0, 0) _ rfl hg2 Tryz.underlying83 rfl HI.out) rfl ?_
  exact ⟨by rw [← HCC.out]; rfl, ((grown_setRow w3 w.heap.size _).block q (row_lt HT3.out) (fun e => Nat.ne_of_lt hq (Option.some.inj e))).trans HT3.out, grown_new HG3.out (grown_setRow w3 w.heap.size _) (Nat.le_refl _)⟩
theorem kid_tk {w : World} {q : Nat} {s : ByteArray} {b : Bool} (h : TkR w q s b) (h4 : s.size ≤ maxLen) :
    Calls Tryz.prog 84 #[.pointer (some ⟨q, 0, none⟩)] w fun e w' => e = .returned (.agg (encK (cK.tk (s.data.toList, b)).1).toArray) ∧ TkR w' q (bs (cK.tk (s.data.toList, b)).2.1) (cK.tk (s.data.toList, b)).2.2 ∧ w.grownBy w' (some q) :=
  kid_tk_at (L0 := s.data.toList) h h4
set_option maxRecDepth 100000 in
set_option maxHeartbeats 4000000 in
theorem volume_tk_at {w : World} {q : Nat} {L0 : List UInt8} {B0 : Bool} (h : TkR w q (bs L0) B0) (hm0 : (bs L0).size ≤ maxLen) :
    Calls Tryz.prog 85 #[.pointer (some ⟨q, 0, none⟩)] w fun e w' => e = .returned (.agg (encV (cV.tk (L0, B0)).1).toArray) ∧ TkR w' q (bs (cV.tk (L0, B0)).2.1) (cV.tk (L0, B0)).2.2 ∧ w.grownBy w' (some q) := by
  have S0 : Below w.heap.size w (w.alloc (.cells #[.string ⟨#[]⟩, .int .u8 0, .string ⟨#[]⟩, .int .u64 0, .int .u32 0, .int .u8 0, .int .u8 0, .int .u8 0, .int .u8 0, .int .u8 0, .int .u8 0, .int .u8 0, .int .u8 0, .int .u8 0, .int .u8 0, .int .u8 0, .int .u8 0, .int .u8 0, .int .u8 0, .int .u8 0, .int .u8 0, .int .u8 0, .int .u8 0, .int .u8 0, .int .u8 0, .int .u8 0, .int .u8 0, .int .u8 0, .int .u8 0, .int .u8 0, .int .u8 0, .int .u8 0, .int .u8 0, .int .u8 0, .int .u8 0, .int .u8 0, .int .u8 0] 86)) := (Below.refl _ _).alloc (Nat.le_refl _) _
  have hq := h.lt
  have HQ0 := Lib.hid (heap_alloc_new w (.cells #[.string ⟨#[]⟩, .int .u8 0, .string ⟨#[]⟩, .int .u64 0, .int .u32 0, .int .u8 0, .int .u8 0, .int .u8 0, .int .u8 0, .int .u8 0, .int .u8 0, .int .u8 0, .int .u8 0, .int .u8 0, .int .u8 0, .int .u8 0, .int .u8 0, .int .u8 0, .int .u8 0, .int .u8 0, .int .u8 0, .int .u8 0, .int .u8 0, .int .u8 0, .int .u8 0, .int .u8 0, .int .u8 0, .int .u8 0, .int .u8 0, .int .u8 0, .int .u8 0, .int .u8 0, .int .u8 0, .int .u8 0, .int .u8 0, .int .u8 0, .int .u8 0] 86))
  have HT0 := Lib.hid (h.below S0)
  have HG0 := Lib.hid (grown_of_below (row := some q) S0)
  clear h S0
  obtain ⟨V1, ⟨L1, B1⟩, e1⟩ : ∃ V s, tkTxt (L0, B0) = (V, s) := ⟨_, _, rfl⟩
  have l1 := txt_less (L0, B0)
  rw [e1] at l1
  have hm1 : (bs L1).size ≤ maxLen := bs_le (s := bs L0) l1 hm0
  have HC1 := Lib.hid (show ∀ w, TkR w q (bs L0) B0 → Calls Tryz.prog 122 #[.pointer (some ⟨q, 0, none⟩)] w fun e w' => e = .returned (.string (bs V1)) ∧ TkR w' q (bs L1) B1 ∧ w.grownBy w' (some q) from fun w h => by
    have c := text_tk h hm0
    rw [bs_data, e1] at c
    exact c)
  obtain ⟨V2, ⟨L2, B2⟩, e2⟩ : ∃ V s, tkTxt (L1, B1) = (V, s) := ⟨_, _, rfl⟩
  have l2 := txt_less (L1, B1)
  rw [e2] at l2
  have hm2 : (bs L2).size ≤ maxLen := bs_le (s := bs L1) l2 hm1
  have HC2 := Lib.hid (show ∀ w, TkR w q (bs L1) B1 → Calls Tryz.prog 122 #[.pointer (some ⟨q, 0, none⟩)] w fun e w' => e = .returned (.string (bs V2)) ∧ TkR w' q (bs L2) B2 ∧ w.grownBy w' (some q) from fun w h => by
    have c := text_tk h hm1
    rw [bs_data, e2] at c
    exact c)
  obtain ⟨V3, ⟨L3, B3⟩, e3⟩ : ∃ V s, tkNum 1 (L2, B2) = (V, s) := ⟨_, _, rfl⟩
  have l3 := num_less 1 (L2, B2)
  rw [e3] at l3
  have hm3 : (bs L3).size ≤ maxLen := bs_le (s := bs L2) l3 hm2
  have v3 := num_byte (L2, B2)
  rw [e3] at v3
  have HC3 := Lib.hid (show ∀ w, TkR w q (bs L2) B2 → Calls Tryz.prog 81 #[.pointer (some ⟨q, 0, none⟩), .int .i64 1] w fun e w' => e = .returned (.int .u64 (V3 : Nat)) ∧ TkR w' q (bs L3) B3 ∧ w.grownBy w' (some q) from fun w h => by
    have c := number_tk h 1 (by omega) (by omega) hm2
    rw [bs_data, e3] at c
    exact c)
  obtain ⟨V4, ⟨L4, B4⟩, e4⟩ : ∃ V s, tkNum 8 (L3, B3) = (V, s) := ⟨_, _, rfl⟩
  have l4 := num_less 8 (L3, B3)
  rw [e4] at l4
  have hm4 : (bs L4).size ≤ maxLen := bs_le (s := bs L3) l4 hm3
  have v4 := num_width 8 (L3, B3)
  rw [e4] at v4
  have HC4 := Lib.hid (show ∀ w, TkR w q (bs L3) B3 → Calls Tryz.prog 81 #[.pointer (some ⟨q, 0, none⟩), .int .i64 8] w fun e w' => e = .returned (.int .u64 (V4 : Nat)) ∧ TkR w' q (bs L4) B4 ∧ w.grownBy w' (some q) from fun w h => by
    have c := number_tk h 8 (by omega) (by omega) hm3
    rw [bs_data, e4] at c
    exact c)
  obtain ⟨V5, ⟨L5, B5⟩, e5⟩ : ∃ V s, tkNum 4 (L4, B4) = (V, s) := ⟨_, _, rfl⟩
  have l5 := num_less 4 (L4, B4)
  rw [e5] at l5
  have hm5 : (bs L5).size ≤ maxLen := bs_le (s := bs L4) l5 hm4
  have v5 := num_width 4 (L4, B4)
  rw [e5] at v5
  have HC5 := Lib.hid (show ∀ w, TkR w q (bs L4) B4 → Calls Tryz.prog 81 #[.pointer (some ⟨q, 0, none⟩), .int .i64 4] w fun e w' => e = .returned (.int .u64 (V5 : Nat)) ∧ TkR w' q (bs L5) B5 ∧ w.grownBy w' (some q) from fun w h => by
    have c := number_tk h 4 (by omega) (by omega) hm4
    rw [bs_data, e5] at c
    exact c)
  obtain ⟨V6, ⟨L6, B6⟩, e6⟩ : ∃ V s, tkHash (L5, B5) = (V, s) := ⟨_, _, rfl⟩
  have l6 := hash_less (L5, B5)
  rw [e6] at l6
  have hm6 : (bs L6).size ≤ maxLen := bs_le (s := bs L5) l6 hm5
  have v6 := tkHash_len (L5, B5)
  rw [e6] at v6
  have HC6 := Lib.hid (show ∀ w, TkR w q (bs L5) B5 → Calls Tryz.prog 123 #[.pointer (some ⟨q, 0, none⟩)] w fun e w' => e = .returned (.agg (u8s V6).toArray) ∧ TkR w' q (bs L6) B6 ∧ w.grownBy w' (some q) from fun w h => by
    have c := hash_tk h
    rw [bs_data, e6] at c
    exact c)
  have hX : cV.tk (L0, B0) = (⟨bs V1, V3, bs V2, V4, V5, V6⟩, (L6, B6)) := as_tk (A := cTxt.pair (cTxt.pair ((cNum 1).pair ((cNum 8).pair ((cNum 4).pair cHash))))) (pair_tk (A := cTxt) e1 (pair_tk (A := cTxt) e2 (pair_tk (A := cNum 1) e3 (pair_tk (A := cNum 8) e4 (pair_tk (A := cNum 4) (B := cHash) e5 e6)))))
  rw [hX]
  dsimp only
  clear hX e1 l1 e2 l2 e3 l3 e4 l4 e5 l5 e6 l6 hm0 hm1 hm2 hm3 hm4 hm5 hm6
  generalize bs V1 = V1 at *
  generalize bs V2 = V2 at *
  have HI := Lib.hid (show (Tryz.prog.info? 86).map (·.size) = some ((Value.string V1 :: Value.int .u8 (V3 : Int) :: Value.string V2 :: Value.int .u64 (V4 : Int) :: Value.int .u32 (V5 : Int) :: u8s V6).toArray).size by rw [List.size_toArray]; simp only [List.length_cons, u8s_length, v6]; kernel_rfl)
  have HO := Lib.hid (show (#[.string ⟨#[]⟩, .int .u8 0, .string ⟨#[]⟩, .int .u64 0, .int .u32 0, .int .u8 0, .int .u8 0, .int .u8 0, .int .u8 0, .int .u8 0, .int .u8 0, .int .u8 0, .int .u8 0, .int .u8 0, .int .u8 0, .int .u8 0, .int .u8 0, .int .u8 0, .int .u8 0, .int .u8 0, .int .u8 0, .int .u8 0, .int .u8 0, .int .u8 0, .int .u8 0, .int .u8 0, .int .u8 0, .int .u8 0, .int .u8 0, .int .u8 0, .int .u8 0, .int .u8 0, .int .u8 0, .int .u8 0, .int .u8 0, .int .u8 0, .int .u8 0] : Array Value).size = ((Value.string V1 :: Value.int .u8 (V3 : Int) :: Value.string V2 :: Value.int .u64 (V4 : Int) :: Value.int .u32 (V5 : Int) :: u8s V6).toArray).size by simp only [List.size_toArray, List.length_cons, u8s_length, v6]; rfl)
  have HONE := Lib.hid (show ((Value.string V1 :: Value.int .u8 (V3 : Int) :: Value.string V2 :: Value.int .u64 (V4 : Int) :: Value.int .u32 (V5 : Int) :: u8s V6).toArray).all (·.oneCell') = true by have := u8s_one V6; simpa [Array.all_eq_true', Value.oneCell'] using this)
  have hFP : List.foldl (fun (cs : Array Value) (x : Value × Nat) => cs.setIfInBounds (5 + x.snd) x.fst) #[.string V1, .int .u8 (V3 : Int), .string V2, .int .u64 (V4 : Int), .int .u32 (V5 : Int), .int .u8 0, .int .u8 0, .int .u8 0, .int .u8 0, .int .u8 0, .int .u8 0, .int .u8 0, .int .u8 0, .int .u8 0, .int .u8 0, .int .u8 0, .int .u8 0, .int .u8 0, .int .u8 0, .int .u8 0, .int .u8 0, .int .u8 0, .int .u8 0, .int .u8 0, .int .u8 0, .int .u8 0, .int .u8 0, .int .u8 0, .int .u8 0, .int .u8 0, .int .u8 0, .int .u8 0, .int .u8 0, .int .u8 0, .int .u8 0, .int .u8 0, .int .u8 0] (u8s V6).zipIdx = (Value.string V1 :: Value.int .u8 (V3 : Int) :: Value.string V2 :: Value.int .u64 (V4 : Int) :: Value.int .u32 (V5 : Int) :: u8s V6).toArray := fold_put (u8s V6) (u8s (List.replicate 32 0)) [.string V1, .int .u8 (V3 : Int), .string V2, .int .u64 (V4 : Int), .int .u32 (V5 : Int)] 5 0 (by rw [u8s_length, u8s_length, List.length_replicate, v6]) rfl
  generalize hCC : (Value.string V1 :: Value.int .u8 (V3 : Int) :: Value.string V2 :: Value.int .u64 (V4 : Int) :: Value.int .u32 (V5 : Int) :: u8s V6).toArray = CC at *
  have HFP := Lib.hid hFP
  have HCC := Lib.hid hCC
  clear hFP hCC
  go_enter Tryz.func85, Tryz.ntmps85
  go_wp2_with fail
  generalize w.alloc _ = w0 at *
  go_at_call 122
  refine (HC1.out _ HT0.out).mono ?_
  rintro e w1 ⟨rfl, ht, hg⟩
  have HT1 := Lib.hid ht
  have HQ1 := Lib.hid ((hg.block w.heap.size (row_lt HQ0.out) (fun e => Nat.ne_of_lt hq (Option.some.inj e).symm)).trans HQ0.out)
  have HG1 := Lib.hid (grown_then HG0.out hg)
  clear ht hg HT0 HQ0 HG0
  go_wp2_with fail
  go_at_call 122
  refine (HC2.out _ HT1.out).mono ?_
  rintro e w2 ⟨rfl, ht, hg⟩
  have HT2 := Lib.hid ht
  have HQ2 := Lib.hid ((hg.block w.heap.size (row_lt HQ1.out) (fun e => Nat.ne_of_lt hq (Option.some.inj e).symm)).trans HQ1.out)
  have HG2 := Lib.hid (grown_then HG1.out hg)
  clear ht hg HT1 HQ1 HG1
  go_wp2_with fail
  go_at_call 81
  refine (HC3.out _ HT2.out).mono ?_
  rintro e w3 ⟨rfl, ht, hg⟩
  have HT3 := Lib.hid ht
  have HQ3 := Lib.hid ((hg.block w.heap.size (row_lt HQ2.out) (fun e => Nat.ne_of_lt hq (Option.some.inj e).symm)).trans HQ2.out)
  have HG3 := Lib.hid (grown_then HG2.out hg)
  clear ht hg HT2 HQ2 HG2
  go_wp2_with fail
  go_at_call 81
  refine (HC4.out _ HT3.out).mono ?_
  rintro e w4 ⟨rfl, ht, hg⟩
  have HT4 := Lib.hid ht
  have HQ4 := Lib.hid ((hg.block w.heap.size (row_lt HQ3.out) (fun e => Nat.ne_of_lt hq (Option.some.inj e).symm)).trans HQ3.out)
  have HG4 := Lib.hid (grown_then HG3.out hg)
  clear ht hg HT3 HQ3 HG3
  go_wp2_with fail
  go_at_call 81
  refine (HC5.out _ HT4.out).mono ?_
  rintro e w5 ⟨rfl, ht, hg⟩
  have HT5 := Lib.hid ht
  have HQ5 := Lib.hid ((hg.block w.heap.size (row_lt HQ4.out) (fun e => Nat.ne_of_lt hq (Option.some.inj e).symm)).trans HQ4.out)
  have HG5 := Lib.hid (grown_then HG4.out hg)
  clear ht hg HT4 HQ4 HG4
  go_wp2_with fail
  go_at_call 123
  refine (HC6.out _ HT5.out).mono ?_
  rintro e w6 ⟨rfl, ht, hg⟩
  have HT6 := Lib.hid ht
  have HQ6 := Lib.hid ((hg.block w.heap.size (row_lt HQ5.out) (fun e => Nat.ne_of_lt hq (Option.some.inj e).symm)).trans HQ5.out)
  have HG6 := Lib.hid (grown_then HG5.out hg)
  clear ht hg HT5 HQ5 HG5
  have hfp := HFP.out
  have hz1 : (u8s V6).length = 32 := by rw [u8s_length, v6]
  have hz2 : V6.length = 32 := v6
  go_wp2_with (refine wpList_store_row rfl 86 (.tmp 2) (.tmp 17) rfl w.heap.size CC rfl rfl 86 #[.string ⟨#[]⟩, .int .u8 0, .string ⟨#[]⟩, .int .u64 0, .int .u32 0, .int .u8 0, .int .u8 0, .int .u8 0, .int .u8 0, .int .u8 0, .int .u8 0, .int .u8 0, .int .u8 0, .int .u8 0, .int .u8 0, .int .u8 0, .int .u8 0, .int .u8 0, .int .u8 0, .int .u8 0, .int .u8 0, .int .u8 0, .int .u8 0, .int .u8 0, .int .u8 0, .int .u8 0, .int .u8 0, .int .u8 0, .int .u8 0, .int .u8 0, .int .u8 0, .int .u8 0, .int .u8 0, .int .u8 0, .int .u8 0, .int .u8 0, .int .u8 0] HQ6.out HI.out HO.out HONE.out ?_)
  have hg2 := setRow_heap' (cs := CC) HQ6.out
  refine bodyPost_ret (v := .agg CC) (results_cell_row rfl _ _ w.heap.size 86 CC (0, 0) _ rfl hg2 Tryz.underlying86 rfl HI.out) rfl ?_
  exact ⟨by rw [← HCC.out]; rfl, ((grown_setRow w6 w.heap.size _).block q (row_lt HT6.out) (fun e => Nat.ne_of_lt hq (Option.some.inj e))).trans HT6.out, grown_new HG6.out (grown_setRow w6 w.heap.size _) (Nat.le_refl _)⟩
theorem volume_tk {w : World} {q : Nat} {s : ByteArray} {b : Bool} (h : TkR w q s b) (h4 : s.size ≤ maxLen) :
    Calls Tryz.prog 85 #[.pointer (some ⟨q, 0, none⟩)] w fun e w' => e = .returned (.agg (encV (cV.tk (s.data.toList, b)).1).toArray) ∧ TkR w' q (bs (cV.tk (s.data.toList, b)).2.1) (cV.tk (s.data.toList, b)).2.2 ∧ w.grownBy w' (some q) :=
  volume_tk_at (L0 := s.data.toList) h h4
end Go.Proofs.YtlchjohaacbkpaaGreatDoor.Nd
