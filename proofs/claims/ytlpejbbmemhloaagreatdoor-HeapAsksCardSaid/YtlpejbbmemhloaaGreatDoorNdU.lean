/- Contracts of package node's taking: a text, a hash. -/
import Derived.Test.YtlpejbbmemhloaaGreatDoorNdT
import Derived.Test.YtlpejbbmemhloaaGreatDoorRgT
import Derived.Lib.BufferWrite
import Derived.Laws.Rows
namespace Go.Proofs.YtlpejbbmemhloaaGreatDoor.Nd
set_option linter.unusedVariables false
open Go.ChangeShapes Go.WideShapes Go.ChangeAt Go.RowKit
open Rg
open Pk (be num be_length num_lt u8s u8s_length)
theorem wpList_copy_str {P : Program} {ops : Array Oper} {rest : List Oper} {o : Oper} {a : Act} {w : World} {Q : Exit → Act → World → Prop}
    (hgd : o.guard = none) (d x : Operand) (dT sT : TypeId) (hop : o.op = Op.call { callee := Callee.builtin Builtin.copy, args := #[d, x], argTypes := #[dT, sT] })
    (elem : TypeId) (hu : P.underlying dT = some (.slice elem)) (hs : (P.info? elem).map (·.size) = some 1) (g dLen dCap : Nat) (hd : a.eval d = .slice (some ⟨g, 0, none⟩) dLen dCap) (s : ByteArray) (hx : a.eval x = .string s)
    (cur : Array Value) (t : TypeId) (hg : w.heap[g]? = some (.cells cur t (0, 0))) (hle : s.size ≤ dLen) (hfit : s.size ≤ cur.size)
    (hK : wpList P ops Q rest (a.put o.dst (goInt s.size)) (w.setRow g (cur.toList.take 0 ++ Lib.byteCells s.data.toList ++ cur.toList.drop (0 + s.size)).toArray)) :
    wpList P ops Q (o :: rest) a w := by
  refine wpList_plain hgd fun K hK' => ?_
  have hrun := Lib.run_copy_row_string (P := P) w dT sT o.type elem g 0 dLen dCap s cur t hu hs hg hle (by omega)
  unfold Oper.wp
  simp [execOp, hop, resolve, invoke, builtin, hd, hx, hrun, Result.andThen]
  exact hK' _ _ (by simpa using hK)
theorem num_less (k : Nat) (s : S) : (tkNum k s).2.1.length ≤ s.1.length := by
  unfold tkNum; split
  · rw [List.length_drop]; omega
  · exact Nat.zero_le _
theorem bytes_less (k : Nat) (s : S) : (tkBytes k s).2.1.length ≤ s.1.length := by
  unfold tkBytes; split
  · exact Nat.zero_le _
  · rw [List.length_drop]; omega
theorem txt_less (s : S) : (tkTxt s).2.1.length ≤ s.1.length := Nat.le_trans (bytes_less _ _) (num_less _ _)
theorem hash_less (s : S) : (tkHash s).2.1.length ≤ s.1.length := bytes_less _ _
theorem num_byte (s : S) : (tkNum 1 s).1 < 256 := by
  unfold tkNum; split
  · have := num_lt (s.1.take 1)
    have h2 : (s.1.take 1).length ≤ 1 := by rw [List.length_take]; omega
    have h3 := Nat.pow_le_pow_right (show 256 > 0 by omega) h2
    omega
  · exact (by omega : 0 < 256)
theorem S_bs (p : S) : ((bs p.1).data.toList, p.2) = p := rfl
set_option maxHeartbeats 1000000 in
theorem text_tk {w : World} {q : Nat} {s : ByteArray} {b : Bool} (h : TkR w q s b) (h4 : s.size ≤ maxLen) :
    Calls Tryz.prog 172 #[.pointer (some ⟨q, 0, none⟩)] w fun e w' => e = .returned (.string (bs (tkTxt (s.data.toList, b)).1)) ∧ TkR w' q (bs (tkTxt (s.data.toList, b)).2.1) (tkTxt (s.data.toList, b)).2.2 ∧ w.grownBy w' (some q) := by
  have HT := Lib.hid h
  have hv := num_byte (s.data.toList, b)
  have HX := Lib.hid (show tkTxt (s.data.toList, b) = tkBytes (tkNum 1 (s.data.toList, b)).1 ((bs (tkNum 1 (s.data.toList, b)).2.1).data.toList, (tkNum 1 (s.data.toList, b)).2.2) from rfl)
  rw [HX.out]
  have HN := Lib.hid (number_tk h 1 (by omega) (by omega) h4)
  clear h HX
  generalize (tkNum 1 (s.data.toList, b)).1 = V at *
  generalize bs (tkNum 1 (s.data.toList, b)).2.1 = R at *
  generalize (tkNum 1 (s.data.toList, b)).2.2 = B at *
  go_enter Tryz.func172, Tryz.ntmps172
  go_wp2_with fail
  go_at_call 150
  refine HN.out.mono ?_
  rintro e w1 ⟨rfl, ht, hg⟩
  have HT1 := Lib.hid ht
  have HG := Lib.hid hg
  clear ht hg
  go_wp2_with fail
  go_at_call 186
  refine (bytes_tk HT1.out V).mono ?_
  rintro e w2 ⟨rfl, ht, hg⟩
  have HT2 := Lib.hid ht
  have HG2 := Lib.hid (grown_then HG.out hg)
  clear ht hg
  go_wp2_with fail
  go_ret
  exact ⟨rfl, HT2.out, HG2.out⟩
theorem two_new (w : World) (c1 c2 : Array Value) (t1 t2 : TypeId) : ((w.alloc (.cells c1 t1)).alloc (.cells c2 t2)).heap[w.heap.size]? = some (.cells c1 t1 (0, 0)) ∧ ((w.alloc (.cells c1 t1)).alloc (.cells c2 t2)).heap[w.heap.size + 1]? = some (.cells c2 t2 (0, 0)) ∧
    Below w.heap.size w ((w.alloc (.cells c1 t1)).alloc (.cells c2 t2)) ∧ ((w.alloc (.cells c1 t1)).alloc (.cells c2 t2)).heap.size = w.heap.size + 2 := by
  refine ⟨?_, ?_, ((Below.refl _ _).alloc (Nat.le_refl _) _).alloc (by simp) _, by simp⟩
  · have h1 := heap_alloc_new w (.cells c1 t1)
    have h2 : Below (w.heap.size + 1) (w.alloc (.cells c1 t1)) ((w.alloc (.cells c1 t1)).alloc (.cells c2 t2)) := (Below.refl _ _).alloc (by simp) _
    exact (h2.block _ (Nat.lt_succ_self _)).trans h1
  · have h1 := heap_alloc_new (w.alloc (.cells c1 t1)) (.cells c2 t2)
    simpa using h1
theorem setRow_heap' {w : World} {g : Nat} {cs old : Array Value} {t : TypeId} {f : Nat × Nat} (h : w.heap[g]? = some (.cells old t f)) : (w.setRow g cs).heap[g]? = some (.cells cs t f) := setRow_heap w g old cs t f h
theorem grown_setRow (w : World) (g : Nat) (cs : Array Value) : w.grownBy (w.setRow g cs) (some g) :=
  ⟨rfl, rfl, rfl, by simp [World.setRow], fun k hk hne => by
    simp only [World.setRow, Array.getElem?_modify]
    rw [if_neg (fun e => hne (by rw [e]))]⟩
/-- what is new is put over as well -/
theorem grown_new {w w1 w2 : World} {q g : Nat} (h1 : w.grownBy w1 (some q)) (h2 : w1.grownBy w2 (some g)) (hg : w.heap.size ≤ g) : w.grownBy w2 (some q) :=
  ⟨h2.os.trans h1.os, h2.tape.trans h1.tape, h2.output.trans h1.output, Nat.le_trans h1.size h2.size, fun k hk hne => (h2.block k (Nat.lt_of_lt_of_le hk h1.size) (fun e => by have := Option.some.inj e; omega)).trans (h1.block k hk hne)⟩
abbrev zH : Array Value := #[.int .u8 0, .int .u8 0, .int .u8 0, .int .u8 0, .int .u8 0, .int .u8 0, .int .u8 0, .int .u8 0, .int .u8 0, .int .u8 0, .int .u8 0, .int .u8 0, .int .u8 0, .int .u8 0, .int .u8 0, .int .u8 0, .int .u8 0, .int .u8 0, .int .u8 0, .int .u8 0, .int .u8 0, .int .u8 0, .int .u8 0, .int .u8 0, .int .u8 0, .int .u8 0, .int .u8 0, .int .u8 0, .int .u8 0, .int .u8 0, .int .u8 0, .int .u8 0]
theorem row_lt {w : World} {b : Nat} {o : Obj} (h : w.heap[b]? = some o) : b < w.heap.size := by
  rcases Nat.lt_or_ge b w.heap.size with hl | hg
  · exact hl
  · rw [Array.getElem?_eq_none hg] at h; cases h
theorem zH_u8s : zH = (u8s (List.replicate 32 0)).toArray := by kernel_rfl
theorem infoH {l : List UInt8} (h : l.length = 32) : (Tryz.prog.info? 43).map (·.size) = some (u8s l).toArray.size := by
  rw [List.size_toArray, u8s_length, h]; kernel_rfl
theorem info8 : (Tryz.prog.info? 5).map (·.size) = some 1 := by kernel_rfl
theorem u8s_one (l : List UInt8) : (u8s l).toArray.all (·.oneCell') = true := by
  rw [Array.all_eq_true']
  intro v hv
  have hv := List.mem_toArray.1 hv
  unfold u8s at hv
  obtain ⟨b, _, rfl⟩ := List.mem_map.1 hv
  rfl
theorem bytes_copied (l : List UInt8) (h : l.length ≤ 32) : (zH.toList.take 0 ++ Lib.byteCells l ++ zH.toList.drop (0 + l.length)).toArray = (u8s (l ++ List.replicate (32 - l.length) 0)).toArray := by
  rw [zH_u8s]
  congr 1
  rw [List.take_zero, List.nil_append, Nat.zero_add]
  unfold u8s Lib.byteCells
  rw [List.map_append, ← List.map_drop, List.drop_replicate]
theorem tkBytes_len (n : Nat) (s : S) : (tkBytes n s).1.length ≤ n := by
  unfold tkBytes; split
  · exact Nat.zero_le _
  · rw [List.length_take]; omega
theorem tkHash_len (s : S) : (tkHash s).1.length = 32 := by
  unfold tkHash
  have := tkBytes_len 32 s
  rw [List.length_append, List.length_replicate]; omega
set_option maxRecDepth 100000 in
set_option maxHeartbeats 2000000 in
theorem hash_tk {w : World} {q : Nat} {s : ByteArray} {b : Bool} (h : TkR w q s b) :
    Calls Tryz.prog 173 #[.pointer (some ⟨q, 0, none⟩)] w fun e w' => e = .returned (.agg (u8s (tkHash (s.data.toList, b)).1).toArray) ∧ TkR w' q (bs (tkHash (s.data.toList, b)).2.1) (tkHash (s.data.toList, b)).2.2 ∧ w.grownBy w' (some q) := by
  obtain ⟨R1, R2, S0, Z0⟩ := two_new w zH zH 43 43
  have hq := h.lt
  have HR1 := Lib.hid R1
  have HR2 := Lib.hid R2
  have HT := Lib.hid (h.below S0)
  have HG := Lib.hid (grown_of_below (row := some q) S0)
  have HZ := Lib.hid Z0
  clear R1 R2 S0 Z0 h
  have hlen := tkBytes_len 32 (s.data.toList, b)
  have hX : tkHash (s.data.toList, b) = ((tkBytes 32 (s.data.toList, b)).1 ++ List.replicate (32 - (tkBytes 32 (s.data.toList, b)).1.length) 0, (tkBytes 32 (s.data.toList, b)).2) := rfl
  have HBT := Lib.hid (show ∀ w, TkR w q s b → _ from fun w h => bytes_tk h 32)
  rw [hX]
  clear hX
  dsimp only
  generalize (tkBytes 32 (s.data.toList, b)).1 = L at *
  generalize bs (tkBytes 32 (s.data.toList, b)).2.1 = R at *
  generalize (tkBytes 32 (s.data.toList, b)).2.2 = B at *
  have HL2 := Lib.hid (show (L ++ List.replicate (32 - L.length) 0).length = 32 by rw [List.length_append, List.length_replicate]; omega)
  have HCP := Lib.hid (show (zH.toList.take 0 ++ Lib.byteCells (bs L).data.toList ++ zH.toList.drop (0 + (bs L).size)).toArray = (u8s (L ++ List.replicate (32 - L.length) 0)).toArray by rw [bs_data, bs_size]; exact bytes_copied L hlen)
  generalize L ++ List.replicate (32 - L.length) 0 = H at *
  have HLN := Lib.hid hlen
  clear hlen
  go_enter Tryz.func173, Tryz.ntmps173
  go_wp2_with fail
  generalize (w.alloc _).alloc _ = W2 at *
  have HQ1 := Lib.hid (show q ≠ w.heap.size from Nat.ne_of_lt hq)
  have HQ2 := Lib.hid (show q ≠ w.heap.size + 1 by omega)
  refine wp_region_T (fun w' : World => True) 3 (by kernel_rfl) (by kernel_rfl) ?_
  have hS : True := trivial
  have HT' := Lib.hid (show TkR W2.drew q s b from HT.out)
  refine take_T 0 4 (.slice (some ⟨w.heap.size + 1, 0, none⟩) 32 32) rfl (by rfl) (by kernel_rfl) (by decide) (by kernel_rfl) (by kernel_rfl) (by kernel_rfl) (fun _ _ _ h => h) (Or.inl ⟨by rfl, fun w' hSw => by go_simp⟩) hS ?_
  simp only [List.setIfInBounds_toArray, List.set_cons_zero, List.set_cons_succ]
  refine take_T 1 5 (.pointer (some ⟨q, 0, none⟩)) rfl (by rfl) (by kernel_rfl) (by decide) (by kernel_rfl) (by kernel_rfl) (by kernel_rfl) (fun _ _ _ h => h) (Or.inl ⟨by rfl, fun w' hSw => by go_simp⟩) hS ?_
  simp only [List.setIfInBounds_toArray, List.set_cons_zero, List.set_cons_succ]
  refine only_T 2 rfl (by kernel_rfl) (by decide) (by rfl) (fun K hK => ?_)
  go_wp2_with fail
  go_at_call 186
  refine (HBT.out _ HT'.out).mono ?_
  rintro e w3 ⟨rfl, ht, hg⟩
  have HT3 := Lib.hid ht
  have HG3 := Lib.hid (grown_then HG.out (grown_then (grown_of_below (row := some q) (Below.refl _ _).drew) hg))
  have HQ := Lib.hid ((hg.block w.heap.size (row_lt (show W2.drew.heap[w.heap.size]? = _ from HR1.out)) (fun e => HQ1.out (Option.some.inj e).symm)).trans HR1.out)
  have HH := Lib.hid ((hg.block (w.heap.size + 1) (row_lt (show W2.drew.heap[w.heap.size + 1]? = _ from HR2.out)) (fun e => HQ2.out (Option.some.inj e).symm)).trans HR2.out)
  clear ht hg HT HT' HR1 HR2 HG
  have hS2 : True := trivial
  refine hK.out _ _ hS2 ?_
  clear hK K
  try simp only [Act.put, List.setIfInBounds_toArray, List.set_cons_zero, List.set_cons_succ]
  refine done_T (by kernel_rfl) ?_
  simp only [List.drop_succ_cons, List.drop_zero]
  have hsz : (bs L).size ≤ 32 := by rw [bs_size]; exact HLN.out
  have HI := Lib.hid (infoH HL2.out)
  have hO : (u8s H).toArray.size = 32 := by rw [List.size_toArray, u8s_length, HL2.out]
  have HO := Lib.hid (show zH.size = (u8s H).toArray.size from (show zH.size = 32 from rfl).trans hO.symm)
  clear hO
  generalize hC : (u8s H).toArray = C at *
  have HONE := Lib.hid (show C.all (·.oneCell') = true by rw [← hC]; exact u8s_one H)
  have HCC := Lib.hid hC
  clear hC
  go_wp2_with (first
    | (refine wpList_copy_str rfl (.tmp 4) (.tmp 6) 139 9 rfl 5 Tryz.underlying139 info8 (w.heap.size + 1) 32 32 rfl (bs L) rfl zH 43 HH.out hsz hsz ?_; rw [HCP.out]; have HH4 := Lib.hid (setRow_heap' (cs := C) HH.out); have HQ4 := Lib.hid (((grown_setRow w3 (w.heap.size + 1) C).block w.heap.size (row_lt HQ.out) (fun e => by have := Option.some.inj e; omega)).trans HQ.out); have HT4 := Lib.hid (show TkR (w3.setRow (w.heap.size + 1) C) q R B from ((grown_setRow w3 (w.heap.size + 1) C).block q (row_lt HT3.out) (fun e => HQ2.out (Option.some.inj e))).trans HT3.out); have HG4 := Lib.hid (grown_new HG3.out (grown_setRow w3 (w.heap.size + 1) C) (by omega)); generalize w3.setRow (w.heap.size + 1) C = w4 at *)
    | (refine wpList_load_row rfl 43 (.tmp 3) rfl (w.heap.size + 1) rfl 43 C (0, 0) _ HH4.out Tryz.underlying43 rfl HI.out ?_)
    | (refine wpList_store_row rfl 43 (.tmp 2) (.tmp 8) rfl w.heap.size C rfl rfl 43 zH HQ4.out HI.out HO.out HONE.out ?_))
  have hg2 := setRow_heap' (cs := C) HQ4.out
  refine bodyPost_ret (v := .agg C) (results_cell_row rfl _ _ w.heap.size 43 C (0, 0) _ rfl hg2 Tryz.underlying43 rfl HI.out) rfl ?_
  refine ⟨by rw [HCC.out], ((grown_setRow w4 w.heap.size C).block q (row_lt HT4.out) (fun e => HQ1.out (Option.some.inj e))).trans HT4.out, grown_new HG4.out (grown_setRow w4 w.heap.size C) (Nat.le_refl _)⟩
end Go.Proofs.YtlpejbbmemhloaaGreatDoor.Nd
