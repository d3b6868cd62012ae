/- Contract of slices.Insert of one element in the midst, at a list of cells (pointers). -/
import Derived.Test.YtlpejbbmemhloaaGreatDoorRgG
import Derived.Test.YtlpejbbmemhloaaGreatDoorSum
import Derived.Test.YtlpejbbmemhloaaGreatDoorRgS
import Derived.Test.YtlpejbbmemhloaaGreatDoorGb2
import Derived.Test.YtlpejbbmemhloaaGreatDoorGb3
import Derived.Test.YtlpejbbmemhloaaGreatDoorRgX
import Derived.Test.YtlpejbbmemhloaaGreatDoorGb4
import Derived.Test.YtlpejbbmemhloaaGreatDoorTnC
import Derived.Shelf.Spec.SlicesInsertGrow
import Derived.BigQuiet
namespace Go.Proofs.YtlpejbbmemhloaaGreatDoor.Hp
set_option linter.unusedVariables false
set_option linter.unusedSimpArgs false
set_option maxRecDepth 100000
open Go.ChangeShapes Go.WideShapes Go.ChangeAt Go.RowKit Go.WideMaps Go.Maps
open Go.Shelf Go.Lib
open Ar Nd
open BigFrame
theorem set_cut {α : Type} (l : List α) (o : Nat) (v : α) (h : o < l.length) : l.set o v = l.take o ++ v :: l.drop (o + 1) := by
  rw [List.set_eq_take_append_cons_drop, if_pos h]
/-- cells of a row stored, one behind the other -/
theorem setCells_row {w : World} {b : Nat} {t : TypeId} : ∀ (vs : List Value) (o : Nat) (cur : List Value) (w : World), o + vs.length ≤ cur.length → w.heap[b]? = some (.cells cur.toArray t (0, 0)) → (w.setCells b o vs).heap[b]? = some (.cells (cur.take o ++ vs ++ cur.drop (o + vs.length)).toArray t (0, 0))
  | [], o, cur, w, h, hr => by
    rw [World.setCells, hr, List.append_nil, List.length_nil, Nat.add_zero, List.take_append_drop]
  | v :: vs, o, cur, w, h, hr => by
    have hl : o < cur.length := by simp at h; omega
    have h1 := row_set (i := o) (u := v) hr
    have h2 := setCells_row (w := w) (b := b) (t := t) vs (o + 1) (cur.set o v) (w.setCell ⟨b, o, none⟩ v) (by simp at h ⊢; omega) h1
    rw [World.setCells, h2]
    congr 3
    rw [set_cut _ _ _ hl]
    have ht : (cur.take o).length = o := List.length_take_of_le (by omega)
    have e1 : (cur.take o ++ v :: cur.drop (o + 1)).take (o + 1) = cur.take o ++ [v] := by
      rw [List.take_append, ht, List.take_of_length_le (by omega), show o + 1 - o = 1 by omega]; rfl
    have e2 : (cur.take o ++ v :: cur.drop (o + 1)).drop (o + 1 + vs.length) = cur.drop (o + (v :: vs).length) := by
      rw [List.drop_append, ht, List.drop_eq_nil_of_le (by omega), List.nil_append, show o + 1 + vs.length - o = vs.length + 1 by omega, List.drop_succ_cons, List.drop_drop]
      congr 1
      rw [List.length_cons]; omega
    rw [e1, e2]
    simp only [List.append_assoc, List.cons_append, List.nil_append]
theorem setCells_grown (b : Nat) : ∀ (vs : List Value) (o : Nat) (w : World), w.grownBy (w.setCells b o vs) (some b)
  | [], o, w => grown_refl _ _
  | v :: vs, o, w => grown_trans (grown_cell w b o v) (setCells_grown b vs (o + 1) _)
def ptr (p : Nat) : Value := .pointer (some ⟨p, 0, none⟩)
theorem flat_enP (D : List Nat) : D.flatMap enP = D.map ptr := by
  induction D with
  | nil => rfl
  | cons x D ih => rw [List.flatMap_cons, ih]; rfl
theorem ptr_one (D : List Nat) : ∀ v ∈ D.map ptr, v.oneCell' = true := fun v hv => by
  obtain ⟨x, _, rfl⟩ := List.mem_map.1 hv
  rfl
theorem enP_at {w : World} {g p : Nat} (hrow : w.heap[g]? = some (.cells (enP p).toArray TP (0, 0))) : ∀ (j : Nat) (v : Value), ([ptr p] : List Value)[j]? = some v → w.cell? ⟨g, 0 + j, none⟩ = some v := fun j v hv => by
  rw [Nat.zero_add]
  exact (cell_of_row _ _ j _ _ _ hrow).trans (by simpa [enP, ptr] using hv)
theorem sizeP : ∀ w, (Go.sizeOf TP).run Tryz.prog w = .ok 1 w := fun w => by kernel_rfl
theorem infoPs : (Tryz.prog.info? TP).map (·.size) = some 1 := by kernel_rfl
set_option maxHeartbeats 4000000 in
/-- there is room -/
theorem insert_room {X w : World} {b n c g p i : Nat} {D : List Nat} {cur : List Value} (hX : X.heap.size ≤ b) (hB : Below X.heap.size X w) (hr : w.heap[b]? = some (.cells cur.toArray TP (0, 0))) (hcl : cur.length = c) (hcm : c ≤ maxLen) (hD : cur.take n = D.map ptr)
    (hn : n = D.length) (hi : i < n) (hroom : n + 1 ≤ c) (hrow : w.heap[g]? = some (.cells (enP p).toArray TP (0, 0))) (hgb : g ≠ b) :
    Calls Tryz.prog 159 #[.slice (some ⟨b, 0, none⟩) n c, .int .i64 i, .slice (some ⟨g, 0, none⟩) 1 1] w fun e w' => ∃ v, e = .returned v ∧ MkP X w' v (D.take i ++ [p] ++ D.drop i) ∧ w.grownBy w' (some b) := by
  have hc63 : c ≤ 9223372036854775807 := by unfold maxLen at hcm; omega
  have hov : ∀ lb cb, (callFunc 177 #[.slice (some ⟨g, 0, none⟩) 1 1, .slice (some ⟨b, i + 1, none⟩) lb cb]).run Tryz.prog w = .ok (.value (.bool false)) w := fun lb cb => by
    rw [run_callFunc_extern Tryz.func177 (by kernel_rfl) (by kernel_rfl) (by kernel_rfl) (e := Extern.SlicesOverlaps.overlaps #[66, 66] #[4]) (by kernel_rfl),
      Lib.run_overlaps_apart w 66 4 TP Tryz.underlying66 1 sizeP ⟨g, 0, none⟩ ⟨b, i + 1, none⟩ 1 1 lb cb hgb TP TP 1 c (by simp [World.shape?, hrow, enP]) (by simp [World.shape?, hr, hcl]) (by omega) (frozen_of_row _ _ _ _ _ hrow) (frozen_of_row _ _ _ _ _ hrow)]
    rfl
  obtain ⟨T2, hT2⟩ : ∃ T2 : List Value, T2 = (D.map ptr).drop i := ⟨_, rfl⟩
  have hdl : T2.length = n - i := by rw [hT2, List.length_drop, List.length_map, ← hn]
  have hcs : ∀ j v, T2[j]? = some v → w.cell? ⟨b, i + j, none⟩ = some v := fun j v hj => by
    rw [hT2, List.getElem?_drop, ← hD, List.getElem?_take] at hj
    split at hj
    · exact (cell_of_row _ _ _ _ _ _ hr).trans (by simpa using hj)
    · cases hj
  have hsp : ∀ {W : World} {cu : List Value} {j : Nat}, W.heap[b]? = some (.cells cu.toArray TP (0, 0)) → j < cu.length → (W.cell? ⟨b, j, none⟩).isSome = true := fun {W cu j} hr hj => by
    rw [cell_of_row _ _ j _ _ _ hr]
    simp [hj]
  obtain ⟨W1, hW1⟩ : ∃ W1, W1 = w.drew.setCells b (i + 1) T2 := ⟨_, rfl⟩
  have hr1 : W1.heap[b]? = some (.cells (cur.take (i + 1) ++ T2 ++ cur.drop (i + 1 + T2.length)).toArray TP (0, 0)) := by
    rw [hW1]
    exact setCells_row (w := w.drew) T2 (i + 1) cur w.drew (by rw [hdl, hcl]; omega) hr
  have hl1 : (cur.take (i + 1) ++ T2 ++ cur.drop (i + 1 + T2.length)).length = c := by
    simp only [List.length_append, List.length_take, List.length_drop, hdl, hcl]
    omega
  have hg1 : w.grownBy W1 (some b) := by
    rw [hW1]
    exact grown_trans (grown_of_below ((Below.refl w.heap.size w).drew) _) (setCells_grown b T2 (i + 1) w.drew)
  have hrow1 : W1.heap[g]? = some (.cells (enP p).toArray TP (0, 0)) := row_other hg1 hrow hgb
  have hcp1 : ∀ ty dc sc, (Builtin.copy_ #[66, 66] ty #[.slice (some ⟨b, i + 1, none⟩) (n - i) dc, .slice (some ⟨b, i, none⟩) (n + 1 - i) sc]).run Tryz.prog w.drew = .ok (goInt T2.length) W1 := fun ty dc sc => by
    rw [hW1]
    exact run_copy_cells w.drew _ _ ty TP b (i + 1) (n - i) dc ⟨b, i, none⟩ (n + 1 - i) sc T2 Tryz.underlying66 infoPs (by rw [hdl]; simp only [Nat.min_def]; split <;> omega)
      (fun j v hj => by rw [Addr.add_lit]; exact hcs j v hj)
      (fun j hj => hsp (W := w.drew) hr (by rw [hcl]; omega)) (fun j hj => frozen_of_row w.drew _ _ _ _ hr) (fun v hv => ptr_one D v (by rw [hT2] at hv; exact List.mem_of_mem_drop hv))
  obtain ⟨W2, hW2⟩ : ∃ W2, W2 = W1.setCells b i [ptr p] := ⟨_, rfl⟩
  have hcp2 : ∀ ty dc, (Builtin.copy_ #[66, 66] ty #[.slice (some ⟨b, i, none⟩) (n + 1 - i) dc, .slice (some ⟨g, 0, none⟩) 1 1]).run Tryz.prog W1 = .ok (goInt 1) W2 := fun ty dc => by
    rw [hW2]
    exact run_copy_cells W1 _ _ ty TP b i (n + 1 - i) dc ⟨g, 0, none⟩ 1 1 [ptr p] Tryz.underlying66 infoPs (by simp only [Nat.min_def, List.length_singleton]; split <;> omega)
      (fun j v hj => by rw [Addr.add_lit]; exact enP_at hrow1 j v hj)
      (fun j hj => hsp hr1 (by rw [hl1]; simp at hj; omega)) (fun j hj => frozen_of_row _ _ _ _ _ hr1) (fun v hv => by rw [List.mem_singleton.1 hv]; rfl)
  have hr2 : W2.heap[b]? = some (.cells ((cur.take (i + 1) ++ T2 ++ cur.drop (i + 1 + T2.length)).take i ++ [ptr p] ++ (cur.take (i + 1) ++ T2 ++ cur.drop (i + 1 + T2.length)).drop (i + 1)).toArray TP (0, 0)) := by
    rw [hW2]
    exact setCells_row (w := W1) [ptr p] i _ W1 (by rw [hl1]; simp; omega) hr1
  have hti : (cur.take (i + 1)).length = i + 1 := List.length_take_of_le (by omega)
  have hfin : (((cur.take (i + 1) ++ T2 ++ cur.drop (i + 1 + T2.length)).take i ++ [ptr p] ++ (cur.take (i + 1) ++ T2 ++ cur.drop (i + 1 + T2.length)).drop (i + 1))).take (n + 1) = (D.take i ++ [p] ++ D.drop i).map ptr := by
    have e1 : (cur.take (i + 1) ++ T2 ++ cur.drop (i + 1 + T2.length)).take i = (D.take i).map ptr := by
      rw [List.append_assoc, List.take_append_of_le_length (by rw [hti]; omega), List.take_take, Nat.min_eq_left (by omega), List.map_take, ← hD, List.take_take, Nat.min_eq_left (by omega)]
    have e2 : (cur.take (i + 1) ++ T2 ++ cur.drop (i + 1 + T2.length)).drop (i + 1) = T2 ++ cur.drop (i + 1 + T2.length) := by
      rw [List.append_assoc, List.drop_append_of_le_length (by omega), List.drop_eq_nil_of_le (by omega), List.nil_append]
    have e3 : ((D.take i).map ptr ++ [ptr p]).length = i + 1 := by simp; omega
    rw [e1, e2, ← List.append_assoc, List.take_append_of_le_length (by rw [List.length_append, e3, hdl]; omega), List.take_of_length_le (by rw [List.length_append, e3, hdl]; omega), List.map_append, List.map_append, hT2, List.map_drop]
    rfl
  have hg2 : w.grownBy W2 (some b) := by
    rw [hW2]
    exact grown_trans hg1 (setCells_grown b _ _ _)
  have HMK := Lib.hid (show MkP X W2 (.slice (some ⟨b, 0, none⟩) (n + 1) c) (D.take i ++ [p] ++ D.drop i) from by
    have hlen : (D.take i ++ [p] ++ D.drop i).length = n + 1 := by
      simp only [List.length_append, List.length_take, List.length_drop, List.length_singleton]
      omega
    refine ⟨⟨by rw [flat_len enP_len], .inr ⟨b, c, _, by rw [hlen], hX, hr2, by rw [hlen]; omega, hcm, ?_, ?_⟩⟩, hB.trans ⟨hg2.os, hg2.tape, hg2.output, hg2.size, fun k hk => hg2.block k (Nat.lt_of_lt_of_le hk hB.size) (fun e => by cases e; omega)⟩⟩
    · simp only [List.size_toArray, List.length_append, List.length_take, List.length_drop, List.length_singleton, hl1]
      omega
    · rw [hlen, Nat.mul_one, List.toList_toArray, hfin, flat_enP])
  have HG := Lib.hid hg2
  have hw1 : IntKind.i64.wrap ((i : Int) + 1) = (i : Int) + 1 := by rw [IntKind.wrap_i64]; omega
  have hb1 : (0 : Int) ≤ (i : Int) + 1 := by omega
  have hin : i ≤ n := by omega
  have htn : ((i : Int) + 1).toNat = i + 1 := by omega
  have hb2 : ¬ (c = i + 1) := by omega
  have hb3 : (i : Int) ≤ (n : Int) + 1 := by omega
  have hb4 : ¬ (c = i) := by omega
  have hz2 : ¬ ((i : Int) = (n : Int)) := by omega
  have HW1 := Lib.hid hW1
  have mixed : Tryz.prog.follows .mixedOrders = true := by kernel_rfl
  clear hg2 hr2 hfin hti hg1 hrow1 hl1 hr1 hsp hcs hdl hr hrow hD hcl hT2 hn hX hB hW2 hW1
  go_enter Tryz.func159, Tryz.ntmps159
  go_wp2_with (simp only [hov])
  go_region_law_o (refine step_copy_runI rfl _ _ 66 66 rfl _ _ (by simp [Act.eval, Act.put]) (by simp [Act.eval, Act.put]) (hcp1 _ _ _) ?_)
  go_wp2_with (at_builtin; refine wpList_copy_runI _ rfl _ _ 66 66 rfl _ _ rfl rfl (hcp2 _ _) ?_)
  go_ret
  exact ⟨_, rfl, HMK.out, HG.out⟩
set_option maxHeartbeats 4000000 in
/-- there is no room: a new row -/
theorem insert_grow {X w : World} {b n c g p i : Nat} {D : List Nat} {cur : List Value} (hB : Below X.heap.size X w) (hr : w.heap[b]? = some (.cells cur.toArray TP (0, 0))) (hD : cur.take n = D.map ptr)
    (hn : n = D.length) (hm : n ≤ 65536) (hi : i < n) (hnc : n ≤ c) (hroom : c < n + 1) (hrow : w.heap[g]? = some (.cells (enP p).toArray TP (0, 0))) :
    Calls Tryz.prog 159 #[.slice (some ⟨b, 0, none⟩) n c, .int .i64 i, .slice (some ⟨g, 0, none⟩) 1 1] w fun e w' => ∃ v, e = .returned v ∧ MkP X w' v (D.take i ++ [p] ++ D.drop i) ∧ w.grownBy w' (some b) := by
  obtain ⟨i0, hi0, hz0, hzs, hzb⟩ := catP_info
  have hbw : b < w.heap.size := row_lt hr
  have hgw : g < w.heap.size := row_lt hrow
  have hcells : ∀ j v, (D.map ptr)[j]? = some v → w.cell? ⟨b, j, none⟩ = some v := fun j v hj => by
    rw [← hD, List.getElem?_take] at hj
    split at hj
    · exact (cell_of_row _ _ _ _ _ _ hr).trans (by simpa using hj)
    · cases hj
  obtain ⟨T1, hT1⟩ : ∃ T1 : List Value, T1 = (D.map ptr).take i := ⟨_, rfl⟩
  obtain ⟨T2, hT2⟩ : ∃ T2 : List Value, T2 = (D.map ptr).drop i := ⟨_, rfl⟩
  have hl1 : T1.length = i := by rw [hT1]; exact List.length_take_of_le (by rw [List.length_map]; omega)
  have hl2 : T2.length = n - i := by rw [hT2, List.length_drop, List.length_map, ← hn]
  have hc1 : ∀ j v, T1[j]? = some v → w.cell? ⟨b, j, none⟩ = some v := fun j v hj => by
    rw [hT1, List.getElem?_take] at hj
    split at hj
    · exact hcells j v hj
    · cases hj
  have hc2 : ∀ j v, T2[j]? = some v → w.cell? ⟨b, i + j, none⟩ = some v := fun j v hj => by
    rw [hT2, List.getElem?_drop] at hj
    exact hcells _ v hj
  have ho2 : ∀ v ∈ T2, v.oneCell' = true := fun v hv => ptr_one D v (by rw [hT2] at hv; exact List.mem_of_mem_drop hv)
  obtain ⟨G, hG⟩ : ∃ G, G = grownCap w (n + 1) c TP := ⟨_, rfl⟩
  have hGn : n + 1 ≤ G := by rw [hG]; exact grownCap_ge w _ _ _
  have hGm : G ≤ maxLen := by rw [hG]; exact grownCap_le_maxLen w (n + 1) c TP (by unfold maxLen; omega)
  obtain ⟨ROW, hROW⟩ : ∃ ROW : List Value, ROW = T1 ++ List.replicate (n + 1 - i) (.pointer none) ++ List.replicate (G - (n + 1)) (.pointer none) := ⟨_, rfl⟩
  have hRl : ROW.length = G := by
    rw [hROW]
    simp only [List.length_append, List.length_replicate, hl1]
    omega
  have hold : (Builtin.firstCells i0.size i (.slice (some ⟨b, 0, none⟩) i c)).run Tryz.prog w.drew = .ok T1.toArray w.drew := by
    rw [hzs]
    exact run_firstCells_some w.drew 1 i ⟨b, 0, none⟩ i c T1 (by omega) (fun j v hj => by rw [Addr.add_lit, Nat.zero_add]; exact hc1 j v hj)
  have hzc : ∀ k, Builtin.zeroCells (Value.pointer none).cells k = (List.replicate k (Value.pointer none)).toArray := fun k => by
    apply Array.ext
    · simp [Builtin.zeroCells, Value.cells]
    · intro j h1 h2
      simp [Builtin.zeroCells, Value.cells, Nat.mod_one]
  have hik : i + (n + 1 - i) = n + 1 := by omega
  have hrz : ∀ ty, (Builtin.append_ #[66, 3] ty #[.slice (some ⟨b, 0, none⟩) i c, .int .i64 ((n : Int) + 1 - (i : Int))]).run Tryz.prog w =
      .ok (.slice (some ⟨w.heap.size, 0, none⟩) (n + 1) G) (w.drew.alloc (.cells ROW.toArray TP)) := fun ty => by
    have h := Lib.run_append_grow_zeros w 66 3 ty TP i0 _ .i64 .i64 Tryz.underlying66 Tryz.underlying3 hi0 hz0 (some ⟨b, 0, none⟩) i c T1 hold (n + 1 - i) (by omega) (by omega) (by omega) (by omega) (by rw [hzb]; omega) (by rw [hzb, hik]; exact growslice_fits hroom (by omega))
    rw [hik, ← hG, hzc, hzc] at h
    rw [show (n : Int) + 1 - (i : Int) = ((n + 1 - i : Nat) : Int) by omega, h, hROW]
    simp only [List.append_toArray]
  obtain ⟨W1, hW1⟩ : ∃ W1, W1 = (w.alloc (.cells ROW.toArray TP)).drew := ⟨_, rfl⟩
  obtain ⟨k, hk⟩ : ∃ k, w.heap.size = k := ⟨_, rfl⟩
  have hr1 : W1.heap[k]? = some (.cells ROW.toArray TP (0, 0)) := by rw [hW1, ← hk]; exact heap_alloc_new w _
  have hb1 : Below w.heap.size w W1 := by rw [hW1]; exact ((Below.refl _ _).alloc (Nat.le_refl _) _).drew
  have hrg1 : W1.heap[g]? = some (.cells (enP p).toArray TP (0, 0)) := (hb1.block _ hgw).trans hrow
  have hrb1 : W1.heap[b]? = some (.cells cur.toArray TP (0, 0)) := (hb1.block _ hbw).trans hr
  have hsp : ∀ {W : World} {cu : List Value} {j : Nat}, W.heap[k]? = some (.cells cu.toArray TP (0, 0)) → j < cu.length → (W.cell? ⟨k, j, none⟩).isSome = true := fun {W cu j} hr hj => by
    rw [cell_of_row _ _ j _ _ _ hr]
    simp [hj]
  obtain ⟨W2, hW2⟩ : ∃ W2, W2 = W1.setCells k i [ptr p] := ⟨_, rfl⟩
  have hcpA : ∀ ty dc, (Builtin.copy_ #[66, 66] ty #[.slice (some ⟨k, i, none⟩) (n + 1 - i) dc, .slice (some ⟨g, 0, none⟩) 1 1]).run Tryz.prog W1 = .ok (goInt 1) W2 := fun ty dc => by
    rw [hW2]
    exact run_copy_cells W1 _ _ ty TP k i (n + 1 - i) dc ⟨g, 0, none⟩ 1 1 [ptr p] Tryz.underlying66 infoPs (by simp only [Nat.min_def, List.length_singleton]; split <;> omega)
      (fun j v hj => by rw [Addr.add_lit]; exact enP_at hrg1 j v hj)
      (fun j hj => hsp hr1 (by rw [hRl]; simp at hj; omega)) (fun j hj => frozen_of_row _ _ _ _ _ hr1) (fun v hv => by rw [List.mem_singleton.1 hv]; rfl)
  have hr2 : W2.heap[k]? = some (.cells (ROW.take i ++ [ptr p] ++ ROW.drop (i + 1)).toArray TP (0, 0)) := by
    rw [hW2]
    exact setCells_row (w := W1) [ptr p] i _ W1 (by rw [hRl]; simp; omega) hr1
  have hL2 : (ROW.take i ++ [ptr p] ++ ROW.drop (i + 1)).length = G := by
    simp only [List.length_append, List.length_take, List.length_drop, List.length_singleton, hRl]
    omega
  have hrb2 : W2.heap[b]? = some (.cells cur.toArray TP (0, 0)) := by
    rw [hW2]
    exact row_other (setCells_grown k _ _ _) hrb1 (by omega)
  obtain ⟨W3, hW3⟩ : ∃ W3, W3 = W2.drew.setCells k (i + 1) T2 := ⟨_, rfl⟩
  have hcpB : ∀ ty dc sc, (Builtin.copy_ #[66, 66] ty #[.slice (some ⟨k, i + 1, none⟩) (n - i) dc, .slice (some ⟨b, i, none⟩) (n - i) sc]).run Tryz.prog W2.drew = .ok (goInt T2.length) W3 := fun ty dc sc => by
    rw [hW3]
    exact run_copy_cells W2.drew _ _ ty TP k (i + 1) (n - i) dc ⟨b, i, none⟩ (n - i) sc T2 Tryz.underlying66 infoPs (by rw [hl2]; simp only [Nat.min_def]; split <;> omega)
      (fun j v hj => by
        rw [Addr.add_lit]
        have h1 : w.cell? ⟨b, i + j, none⟩ = some v := hc2 j v hj
        rw [cell_of_row _ _ (i + j) _ _ _ hr] at h1
        exact (cell_of_row W2.drew _ (i + j) _ _ _ hrb2).trans h1)
      (fun j hj => hsp (W := W2.drew) hr2 (by rw [hL2]; omega)) (fun j hj => frozen_of_row W2.drew _ _ _ _ hr2) ho2
  have hr3 : W3.heap[k]? = some (.cells ((ROW.take i ++ [ptr p] ++ ROW.drop (i + 1)).take (i + 1) ++ T2 ++ (ROW.take i ++ [ptr p] ++ ROW.drop (i + 1)).drop (i + 1 + T2.length)).toArray TP (0, 0)) := by
    rw [hW3]
    exact setCells_row (w := W2.drew) T2 (i + 1) _ W2.drew (by rw [hL2, hl2]; omega) hr2
  have hti : (ROW.take i ++ [ptr p]).length = i + 1 := by
    rw [List.length_append, List.length_take, hRl, List.length_singleton]
    omega
  have hRt : ROW.take i = T1 := by
    rw [hROW, List.append_assoc, List.take_append_of_le_length (by omega), List.take_of_length_le (by omega)]
  have hfin : ((ROW.take i ++ [ptr p] ++ ROW.drop (i + 1)).take (i + 1) ++ T2 ++ (ROW.take i ++ [ptr p] ++ ROW.drop (i + 1)).drop (i + 1 + T2.length)).take (n + 1) = (D.take i ++ [p] ++ D.drop i).map ptr := by
    have e1 : (ROW.take i ++ [ptr p] ++ ROW.drop (i + 1)).take (i + 1) = T1 ++ [ptr p] := by
      rw [List.take_append_of_le_length (by omega), List.take_of_length_le (by omega), hRt]
    have e3 : (T1 ++ [ptr p] ++ T2).length = n + 1 := by
      simp only [List.length_append, List.length_singleton, hl1, hl2]
      omega
    rw [e1, List.take_append_of_le_length (by omega), List.take_of_length_le (by omega), List.map_append, List.map_append, hT1, hT2, List.map_take, List.map_drop]
    rfl
  have hL3 : ((ROW.take i ++ [ptr p] ++ ROW.drop (i + 1)).take (i + 1) ++ T2 ++ (ROW.take i ++ [ptr p] ++ ROW.drop (i + 1)).drop (i + 1 + T2.length)).length = G := by
    rw [List.length_append, List.length_append, List.length_take, List.length_drop, hL2, hl2]
    omega
  have hb3 : Below w.heap.size w W3 := by
    have h2 : Below w.heap.size w W2 := hb1.trans (by rw [hW2]; exact below_of_grown (setCells_grown k [ptr p] i W1) hb1.size (by omega))
    have h3 : Below w.heap.size w W2.drew := h2.drew
    rw [hW3]
    exact h3.trans (below_of_grown (setCells_grown k T2 (i + 1) W2.drew) h3.size (by omega))
  have HMK := Lib.hid (show MkP X W3 (.slice (some ⟨k, 0, none⟩) (n + 1) G) (D.take i ++ [p] ++ D.drop i) from by
    have hlen : (D.take i ++ [p] ++ D.drop i).length = n + 1 := by
      simp only [List.length_append, List.length_take, List.length_drop, List.length_singleton]
      omega
    refine ⟨⟨by rw [flat_len enP_len], .inr ⟨k, G, _, by rw [hlen], by have := hB.size; omega, hr3, by rw [hlen]; exact hGn, hGm, by rw [List.size_toArray, hL3]; omega, ?_⟩⟩, hB.trans (hb3.mono hB.size)⟩
    rw [hlen, Nat.mul_one, List.toList_toArray, hfin, flat_enP])
  have HG := Lib.hid (show w.grownBy W3 (some b) from grown_of_below hb3 _)
  have hw1 : IntKind.i64.wrap ((i : Int) + 1) = (i : Int) + 1 := by rw [IntKind.wrap_i64]; omega
  have hq1 : (0 : Int) ≤ (i : Int) + 1 := by omega
  have hin : i ≤ n := by omega
  have htn : ((i : Int) + 1).toNat = i + 1 := by omega
  have hG63 : G ≤ 9223372036854775807 := by unfold maxLen at hGm; omega
  have hb2 : ¬ (c = i) := by omega
  have hb4 : ¬ (G = i) := by omega
  have hb5 : ¬ (G = i + 1) := by omega
  have hz2 : ¬ ((i : Int) = (n : Int)) := by omega
  have hz3 : (c : Int) < (n : Int) + 1 := by omega
  have mixed : Tryz.prog.follows .mixedOrders = true := by kernel_rfl
  have HW1 := Lib.hid hW1
  rw [hk] at hrz
  have hWa : (w.drew.alloc (.cells ROW.toArray TP)) = W1 := by rw [hW1]; rfl
  rw [hWa] at hrz
  clear hb3 hL3 hfin hRt hti hr3 hW3 hrb2 hL2 hr2 hW2 hsp hrb1 hrg1 hb1 hr1 hW1 hWa hzc hold hRl hROW hGm hG ho2 hc2 hc1 hl2 hl1 hT1 hT2 hcells hgw hbw hrow hr hD hB hi0 hz0 hzs hzb hik hn
  go_enter Tryz.func159, Tryz.ntmps159
  go_wp2_with (first
    | (at_builtin; refine Lib.wpList_append_run _ rfl _ _ _ _ rfl _ _ rfl rfl _ _ (hrz _) ?_)
    | (at_builtin; refine wpList_copy_runI _ rfl _ _ 66 66 rfl _ _ rfl rfl (hcpA _ _) ?_))
  go_region_law_o (refine step_copy_runI rfl _ _ 66 66 rfl _ _ (by simp [Act.eval, Act.put]) (by simp [Act.eval, Act.put]) (hcpB _ _ _) ?_)
  go_wp2
  go_ret
  exact ⟨_, rfl, HMK.out, HG.out⟩
end Go.Proofs.YtlpejbbmemhloaaGreatDoor.Hp
/- Contract of package heap's add, wherever the first gap is, and where it fails. -/
namespace Go.Proofs.YtlpejbbmemhloaaGreatDoor.Hp
set_option linter.unusedVariables false
set_option linter.unusedSimpArgs false
set_option maxRecDepth 100000
open Go.ChangeShapes Go.WideShapes Go.ChangeAt Go.RowKit Go.WideMaps Go.Maps
open Ar Nd
open BigFrame
def InPost (X w : World) (A : Option Addr) (n : Nat) (D : List Nat) (e : Ending) (w' : World) : Prop := ∃ v, e = .returned v ∧ MkP X w' v D ∧ ∀ c2, w.grownBy w' (Value.slice A n c2).ownBlock
theorem insert_any {X w : World} {A : Option Addr} {n c g p i : Nat} {D : List Nat} (hM : MkP X w (.slice A n c) D) (hn : n = D.length) (hm : n ≤ 65536) (hi : i ≤ n) (hrow : w.heap[g]? = some (.cells (enP p).toArray TP (0, 0))) (hgb : ∀ c2, (Value.slice A n c2).ownBlock ≠ some g) :
    Calls Tryz.prog 159 #[.slice A n c, .int .i64 i, .slice (some ⟨g, 0, none⟩) 1 1] w (InPost X w A n (D.take i ++ [p] ++ D.drop i)) := by
  rcases Nat.lt_or_ge i n with hlt | hge
  · rcases hM.1.2 with ⟨_, h0⟩ | ⟨b, cap, cur, he, hb, hr, hnc, hcm, hcs, ht⟩
    · omega
    simp only [Value.slice.injEq] at he
    obtain ⟨rfl, h1, rfl⟩ := he
    have hr' : w.heap[b]? = some (.cells cur.toList.toArray TP (0, 0)) := by rw [Array.toArray_toList]; exact hr
    have hcl : cur.toList.length = c := by rw [Array.length_toList, hcs, Nat.mul_one]
    have hD : cur.toList.take n = D.map ptr := by
      rw [flat_enP, Nat.mul_one] at ht
      rw [hn]; exact ht
    have hne : g ≠ b := fun e => hgb c (by rw [e]; rfl)
    rcases Nat.lt_or_ge c (n + 1) with hc | hc
    · refine (insert_grow (X := X) hM.2 hr' hD hn hm hlt (by omega) hc hrow).mono ?_
      rintro e w' ⟨v, rfl, h2, h3⟩
      exact ⟨v, rfl, h2, fun _ => h3⟩
    · refine (insert_room (X := X) hb hM.2 hr' hcl hcm hD hn hlt hc hrow hne).mono ?_
      rintro e w' ⟨v, rfl, h2, h3⟩
      exact ⟨v, rfl, h2, fun _ => h3⟩
  · have hin : i = n := by omega
    subst hin
    refine (insert_end hM hn hm hrow).mono ?_
    rintro e w' ⟨v, rfl, h2, h3⟩
    refine ⟨v, rfl, ?_, h3⟩
    rw [hn, List.take_length, List.drop_length, List.append_nil]
    exact h2
/-- what add comes to -/
def AdGd (n0 : Nat) (w' : World) (q sz mb n g : Nat) (fd : Int) (P : List Nat) (s : Nat → Ob) (E : List Nat) (d : ByteArray) : Prop :=
  ∃ (pb : Nat) (A : Option Addr) (c : Nat), w'.heap[q]? = some (.cells (FlR sz (.slice A (n + 1) c) mb g fd) 130 (0, 0)) ∧ OwP n0 w' (.slice A (n + 1) c) (P.take g ++ [pb] ++ P.drop g) ∧ Rows w' (P.take g ++ [pb] ++ P.drop g) (upd (hldO s E) pb (newO (g + 2) d)) ∧ pb ∉ P
def AdR (n0 : Nat) (w' : World) (q sz mb n g : Nat) (fd : Int) (P : List Nat) (s : Nat → Ob) (E : List Nat) (d : ByteArray) (z : Int) (num : Nat) : Prop :=
  (z = 8 ∧ g + 2 = sz) ∨ (z = 1 ∧ g + 2 ≠ sz ∧ ∃ p ∈ P, 16777216 < (s p).r + E.count p) ∨ (z = 0 ∧ num = g + 2 ∧ g + 2 ≠ sz ∧ (∀ p ∈ P, (s p).r + E.count p ≤ 16777216) ∧ AdGd n0 w' q sz mb n g fd P s E d)
def AdG (n0 : Nat) (w : World) (q sz mb n : Nat) (fd : Int) (P : List Nat) (s : Nat → Ob) (E : List Nat) (d : ByteArray) (e : Ending) (w' : World) : Prop :=
  ∃ (z : Int) (num g : Nat), e = .returned (.tuple #[.int .u32 num, .int .i64 z]) ∧ Below n0 w w' ∧ Fr w w' ∧ GapAt s P g ∧ (∃ v fl, w'.heap[q]? = some (.cells (FlR sz v mb fl fd) 130 (0, 0))) ∧ AdR n0 w' q sz mb n g fd P s E d z num
set_option maxHeartbeats 4000000 in
theorem addG_any {n0 q sz mb mn n c nE cE : Nat} {w : World} {A AE : Option Addr} {fd : Int} {D : DataW Unit} {P : List Nat} {s : Nat → Ob} {E : List Nat} (d : ByteArray) (hq : w.heap[q]? = some (.cells (FlR sz (.slice A n c) mb 0 fd) 130 (0, 0))) (hn : n = P.length) (hnm : n ≤ 65536) (hsz : sz ≤ 65536)
    (hO : OwP n0 w (.slice A n c) P) (hH : HpAt n0 w P s) (hn0 : n0 ≤ w.heap.size) (hq0 : n0 ≤ q) (hM : OwM w mb mn D) (hmn : mn ≤ 65536) (hmb : n0 ≤ mb)
    (hE : Ls enP 1 w w.heap.size AE E) (hnE : nE = E.length) (hEl : nE ≤ 65536) (hEo : OwP n0 w (.slice AE nE cE) E) (hEP : ∀ p ∈ E, p ∈ P) (hr : ∀ p ∈ P, 0 ≤ (s p).r ∧ (s p).r ≤ 16777216) (hd : d.size ≤ 512) :
    Calls Tryz.prog 135 #[.pointer (some ⟨q, 0, none⟩), .string d, .slice AE nE cE] w (AdG n0 w q sz mb n fd P s E d) := by
  have HFG := Lib.hid (firstGap_any hq hn (by omega) hO hH.rows)
  have HN := Lib.hid hn
  have HOO := Lib.hid hO
  have HH := Lib.hid hH
  have HM := Lib.hid hM
  have HE := Lib.hid hEo
  have HNE := Lib.hid hnE
  have HEP := Lib.hid hEP
  have HRR := Lib.hid hr
  have HQ := Lib.hid hq
  clear hn hO hH hM hE hnE hEo hEP hr hq
  go_enter Tryz.func135, Tryz.ntmps135
  go_wp2_with fail
  refine HFG.out.mono ?_
  rintro e w1 ⟨g, rfl, hgap, hq1, hgr1⟩
  have HGP := Lib.hid hgap
  have hgn : g ≤ n := by rw [HN.out]; exact hgap.1
  have HQ1 := Lib.hid hq1
  have HG1 := Lib.hid hgr1
  have HO1 := Lib.hid (HOO.out.byF HQ.out (by decide) hgr1)
  have HE1 := Lib.hid (HE.out.byF HQ.out (by decide) hgr1)
  have HH1 := Lib.hid (HH.out.beside HQ.out (by decide) hgr1)
  have HF1 := Lib.hid (Fr.of_grown hgr1 HQ.out (.inr (.inr rfl)))
  have HM1 := Lib.hid (show OwM w1 mb mn D from World.ownsMap.kept HM.out hgr1 (fun e => by
    obtain ⟨es, clock, hb, _⟩ := HM.out
    rw [Option.some.inj e, HQ.out] at hb
    cases hb))
  have HB1 := Lib.hid (show Below n0 w w1 from below_of_grown hgr1 hn0 hq0)
  clear hq1 hgr1 hgap HFG HE HOO HH HM HQ
  have c0 : w1.cell? ⟨q, 0, none⟩ = some (.int .u32 sz) := cell_of_row _ _ 0 _ _ _ HQ1.out
  have l0 := row_lt HQ1.out
  by_cases hfull : g + 2 = sz
  · have d1 : (((g + 2 : Nat) : Int) == (sz : Int)) = true := by rw [beq_iff_eq]; omega
    have d2 : ((g : Int) + 2 == (sz : Int)) = true := by rw [beq_iff_eq]; omega
    have HFU := Lib.hid hfull
    clear hfull
    go_wp2_with (go_at_call 158; refine (numAt_any g (by omega) _).mono ?_; rintro e w2 ⟨rfl, rfl⟩)
    go_ret2
    exact ⟨8, 0, g, rfl, HB1.out, HF1.out, HGP.out, ⟨_, _, HQ1.out⟩, .inl ⟨rfl, HFU.out⟩⟩
  have d1 : (((g + 2 : Nat) : Int) == (sz : Int)) = false := by rw [beq_eq_false_iff_ne]; omega
  have d2 : ((g : Int) + 2 == (sz : Int)) = false := by rw [beq_eq_false_iff_ne]; omega
  have HFU := Lib.hid hfull
  clear hfull
  go_wp2_with (go_at_call 158; refine (numAt_any g (by omega) _).mono ?_; rintro e w2 ⟨rfl, rfl⟩)
  clear c0 d1 d2
  go_loopw [26] (fun v wr => ∃ i : Nat, i ≤ nE ∧ v = .int .i64 i ∧ Hid (HpAt n0 wr P (hldO s (E.take i))) ∧ Hid (Off n0 w1 wr) ∧ Hid (∀ p ∈ P, (s p).r + (E.take i).count p ≤ 16777216)) (fun v _ => nE - (intOf v).toNat)
  case atStart => exact ⟨0, Nat.zero_le _, by go_num, by show HpAt n0 w1 P (hldO s []); rw [hldO_nil]; exact HH1.out, Off.refl _ _, fun p hp => by have := (HRR.out p hp).2; show (s p).r + (([] : List Nat).count p : Int) ≤ _; simp; exact this⟩
  case round =>
    obtain ⟨i, hi, rfl, hHR, hOR, hRC⟩ := hrel
    have HHR := Lib.hid (Hid.out hHR)
    have HOR := Lib.hid (Hid.out hOR)
    have HRC := Lib.hid (Hid.out hRC)
    clear hHR hOR hRC
    by_cases hlt : i < nE
    · obtain ⟨p, hp⟩ : ∃ p, E[i]? = some p := ⟨_, List.getElem?_eq_getElem (by rw [← HNE.out]; exact hlt)⟩
      have hpP := HEP.out p (List.mem_of_getElem? hp)
      have hL := own_ls enP_len (by have := HOR.out.own (by decide) HE1.out; unfold OwP at this; exact this)
      obtain ⟨b, o, hAe, hbs, hr⟩ := hL i p hp
      have hcp : wr.cell? ⟨b, o + i, none⟩ = some (.pointer (some ⟨p, 0, none⟩)) := by have := hr 0 _ rfl; rwa [Nat.mul_one] at this
      have HSN := Lib.hid (show upd (hldO s (E.take i)) p ((hldO s (E.take i) p).rf ((hldO s (E.take i) p).r + 1)) = hldO s (E.take (i + 1)) by rw [hldO_snoc, take_snoc hp])
      have hcnt : (E.take i).count p + 1 ≤ E.count p := by
        have h1 : (E.take (i + 1)).count p ≤ E.count p := (List.take_sublist _ _).count_le p
        rw [take_snoc hp, List.count_append, List.count_cons_self, List.count_nil] at h1
        omega
      have hrr := HRR.out p hpP
      have hrc := HRC.out p hpP
      by_cases hmax : (s p).r + ((E.take i).count p : Int) = 16777216
      · have HHD := Lib.hid (hold_no (HHR.out.at_ hpP) hmax)
        have HTOO := Lib.hid (show ∃ p ∈ P, 16777216 < (s p).r + (E.count p : Int) from ⟨p, hpP, by omega⟩)
        have HQ3 := Lib.hid (HOR.out.row HQ1.out (by decide))
        have HB3 := Lib.hid (HB1.out.trans (HOR.out.below (Nat.le_trans hn0 HB1.out.size)))
        have HF3 := Lib.hid (HF1.out.trans (Fr.of_off HOR.out))
        clear hL hr hp hcnt hrr hrc hpP hmax
        subst hAe
        go_wp2_with (go_at_call 48; refine HHD.out.mono ?_; rintro e w2 ⟨rfl, rfl⟩)
        go_ret2
        exact ⟨1, 0, g, rfl, HB3.out, HF3.out, HGP.out, ⟨_, _, HQ3.out⟩, .inr (.inl ⟨rfl, HFU.out, HTOO.out⟩)⟩
      · have HHD := Lib.hid (hold_yes HHR.out hpP (by show 0 ≤ (s p).r + ((E.take i).count p : Int); omega) (by show (s p).r + ((E.take i).count p : Int) < 16777216; omega))
        have HRN := Lib.hid (show ∀ x ∈ P, (s x).r + ((E.take (i + 1)).count x : Int) ≤ 16777216 from fun x hx => by
          rw [take_snoc hp, List.count_append]
          have h1 := HRC.out x hx
          by_cases e : x = p
          · subst e
            rw [List.count_cons_self, List.count_nil]
            omega
          · rw [List.count_cons_of_ne (Ne.symm e), List.count_nil]
            omega)
        clear hL hr hp hcnt hrr hrc hpP hmax
        subst hAe
        go_wp2_with (go_at_call 48; refine HHD.out.mono ?_; rintro e w2 ⟨rfl, hH2, ho2⟩; have HH2 := Lib.hid (show HpAt n0 w2 P (hldO s (E.take (i + 1))) by rw [← HSN.out]; exact hH2); have HO2 := Lib.hid (HOR.out.trans ho2); clear hH2 ho2)
        exact ⟨⟨i + 1, by omega, by go_num, HH2.out, HO2.out, HRN.out⟩, by simp [intOf] <;> omega⟩
    · have hin : i = nE := by omega
      have HT := Lib.hid (show E.take i = E by rw [hin, HNE.out, List.take_length])
      clear hin
      have HRE := Lib.hid (show ∀ p ∈ P, (s p).r + (E.count p : Int) ≤ 16777216 by have := HRC.out; rwa [HT.out] at this)
      have HH3 := Lib.hid (show HpAt n0 wr P (hldO s E) by have := HHR.out; rwa [HT.out] at this)
      have HQ3 := Lib.hid (HOR.out.row HQ1.out (by decide))
      have HO3 := Lib.hid (show OwP n0 wr (.slice A n c) P from HOR.out.own (by decide) HO1.out)
      have HM3 := Lib.hid (HM1.out.off HOR.out)
      have q1 : wr.cell? ⟨q, 1, none⟩ = some (.slice A n c) := cell_of_row _ _ 1 _ _ _ HQ3.out
      have lq := row_lt HQ3.out
      have HB3 := Lib.hid (HB1.out.trans (HOR.out.below (Nat.le_trans hn0 HB1.out.size)))
      have HF3 := Lib.hid (HF1.out.trans (Fr.of_off HOR.out))
      have HZ3 := Lib.hid (show n0 ≤ wr.heap.size from Nat.le_trans hn0 HB3.out.size)
      obtain ⟨R1, R2, S0, Z0⟩ := two_new wr (ecO (newO (g + 2) d)).toArray (enP wr.heap.size).toArray T TP
      have HR1 := Lib.hid R1
      have HR2 := Lib.hid R2
      have HS := Lib.hid S0
      clear R1 R2 S0 Z0 HHR HH1 HO1 HQ1 HE1 HRR HRC
      go_wp2_with fail
      change Calls _ _ _ ((wr.alloc (.cells (ecO (newO (g + 2) d)).toArray T)).alloc (.cells (enP wr.heap.size).toArray TP)) _
      generalize (wr.alloc (.cells (ecO (newO (g + 2) d)).toArray T)).alloc (.cells (enP wr.heap.size).toArray TP) = W4 at *
      have HO4 := Lib.hid (own_go HO3.out HS.out)
      obtain ⟨X, hXs, hMX⟩ := OwP.mk HO4.out (Nat.le_trans HZ3.out HS.out.size)
      have HXX := Lib.hid hXs
      have HINS := Lib.hid (insert_any (i := g) hMX HN.out hnm hgn HR2.out (fun c2 e => by
        cases A with
        | none => cases e
        | some a =>
          have h1 := (World.ownsRow.lt HO3.out a.block rfl).2
          have h2 : a.block = wr.heap.size + 1 := Option.some.inj e
          omega))
      have HPN := Lib.hid (show wr.heap.size ∉ P from fun h => Nat.lt_irrefl _ (HH3.out.lt h))
      have HPL := Lib.hid (fun p (hp : p ∈ P) => HH3.out.lt hp)
      clear hXs hMX q1 lq
      refine HINS.out.mono ?_
      rintro e w5 ⟨v5, rfl, hm5, hg5⟩
      obtain ⟨A5, n5, c5, rfl, hn5⟩ : ∃ A n c, v5 = .slice A n c ∧ n = (P.take g ++ [wr.heap.size] ++ P.drop g).length := (by obtain ⟨A, c, h, _⟩ := hm5.ls enP_len; exact ⟨A, _, c, h, rfl⟩)
      have hn51 : n5 = n + 1 := by
        rw [hn5, List.length_append, List.length_append, List.length_take, List.length_drop, List.length_singleton, ← HN.out]
        omega
      subst hn51
      have hlo : ∀ g', (Value.slice A n c).ownBlock = some g' → n0 ≤ g' ∧ ∃ cur, W4.heap[g']? = some (.cells cur TP (0, 0)) := OwP.row HO4.out
      have hkeep : ∀ {g' : Nat} {cs : Array Value} {t : TypeId} {f : Nat × Nat}, W4.heap[g']? = some (.cells cs t f) → t ≠ TP → w5.heap[g']? = some (.cells cs t f) := fun {g' cs t f} hh ht => ((hg5 c).block g' (row_lt hh) (fun e => by
        obtain ⟨_, cur, h2⟩ := hlo g' e.symm
        rw [hh] at h2
        simp only [Option.some.injEq, Obj.cells.injEq] at h2
        exact ht h2.2.1)).trans hh
      have HQ5 := Lib.hid (hkeep ((HS.out.block _ (row_lt HQ3.out)).trans HQ3.out) (by decide))
      have HO5 := Lib.hid (show OwP n0 w5 (.slice A5 (n + 1) c5) (P.take g ++ [wr.heap.size] ++ P.drop g) by have := hm5.1; rw [HXX.out] at this; exact this)
      have HM5 := Lib.hid (OwM.by_ (HM3.out.go HS.out) (hg5 c) (fun g' e => by obtain ⟨_, cur, h2⟩ := hlo g' e; exact ⟨cur, TP, _, h2⟩))
      have HRW5 := Lib.hid (show Rows w5 (P.take g ++ [wr.heap.size] ++ P.drop g) (upd (hldO s E) wr.heap.size (newO (g + 2) d)) from fun p hp => by
        have hp' : p ∈ P ∨ p = wr.heap.size := by
          rcases List.mem_append.1 hp with h1 | h1
          · rcases List.mem_append.1 h1 with h2 | h2
            · exact .inl (List.mem_of_mem_take h2)
            · exact .inr (List.mem_singleton.1 h2)
          · exact .inl (List.mem_of_mem_drop h1)
        rcases hp' with h1 | h1
        · have hne : p ≠ wr.heap.size := fun e => HPN.out (e ▸ h1)
          rw [upd_other hne]
          exact hkeep ((HS.out.block p (HPL.out p h1)).trans (HH3.out.row p h1)) (by decide)
        · rw [h1, upd_same]
          exact hkeep HR1.out (by decide))
      have HB5 := Lib.hid (show Below n0 w w5 from (HB3.out.trans (HS.out.mono HZ3.out)).trans ⟨(hg5 c).os, (hg5 c).tape, (hg5 c).output, (hg5 c).size, fun k hk => (hg5 c).block k (Nat.lt_of_lt_of_le hk (Nat.le_trans HZ3.out HS.out.size)) (fun e => by have := (hlo k e.symm).1; omega)⟩)
      have HF5 := Lib.hid ((HF3.out.trans (Fr.of_below HS.out)).trans (Fr.of_own (hg5 c) HO4.out))
      clear hkeep hlo hm5 hg5 hn5 HINS
      have k1 : w5.cell? ⟨q, 1, none⟩ = some (.slice A n c) := cell_of_row _ _ 1 _ _ _ HQ5.out
      have f1 := frozen_of_row w5 q 1 _ _ HQ5.out
      have l5 := row_lt HQ5.out
      have HQ6 := Lib.hid (row_set (cs := [.int .u32 sz, .slice A n c, .map (some mb), .int .i64 g, .int .i64 fd]) (i := 1) (u := .slice A5 (n + 1) c5) HQ5.out)
      have HM6 := Lib.hid (OwM.by_ HM5.out (grown_cell w5 q 1 (.slice A5 (n + 1) c5)) (fun g' e => by cases e; exact ⟨_, _, _, HQ5.out⟩))
      have m6 : (w5.setCell ⟨q, 1, none⟩ (.slice A5 (n + 1) c5)).cell? ⟨q, 2, none⟩ = some (.map (some mb)) := cell_of_row _ _ 2 _ _ _ HQ6.out
      have l6 : q < (w5.setCell ⟨q, 1, none⟩ (.slice A5 (n + 1) c5)).heap.size := row_lt HQ6.out
      have HKEY := Lib.hid (key_of (d := d) (by unfold maxLen; omega))
      have HWF := Lib.hid (u32_wf (n := g + 2) (by omega))
      go_wp2_with (at_mapUpdate; refine wpList_mapUpdate_own _ rfl _ _ _ 127 rfl 9 22 kLaw Tryz.underlying127 _ mb mn _ rfl HM6.out (by unfold maxLen; omega) _ _ _ rfl rfl HKEY.out _ [] (plainElem_int Tryz.underlying22 HWF.out) ?_; intro w7 hown7 hgrow7; have HG7 := Lib.hid hgrow7; clear hown7 hgrow7)
      go_ret2
      have ho6 : OwP n0 (w5.setCell ⟨q, 1, none⟩ (.slice A5 (n + 1) c5)) (.slice A5 (n + 1) c5) (P.take g ++ [wr.heap.size] ++ P.drop g) := HO5.out.cell HQ5.out (by decide)
      have hr6 : Rows (w5.setCell ⟨q, 1, none⟩ (.slice A5 (n + 1) c5)) (P.take g ++ [wr.heap.size] ++ P.drop g) (upd (hldO s E) wr.heap.size (newO (g + 2) d)) := rows_by HRW5.out (grown_cell w5 q 1 (.slice A5 (n + 1) c5)) (fun p hp e => by
        unfold At at hp
        rw [← Option.some.inj e, HQ5.out] at hp
        simp only [Option.some.injEq, Obj.cells.injEq] at hp
        exact absurd hp.2.1 (by decide))
      have hb6 : Below n0 w (w5.setCell ⟨q, 1, none⟩ (.slice A5 (n + 1) c5)) := HB5.out.trans (below_of_grown (grown_cell w5 q 1 (.slice A5 (n + 1) c5)) (Nat.le_trans hn0 HB5.out.size) hq0)
      have HQ7 := (HG7.out.block q (row_lt HQ6.out) (fun e => HM6.out.ne HQ6.out (Option.some.inj e).symm)).trans HQ6.out
      exact ⟨0, g + 2, g, by simp, hb6.trans (below_of_grown HG7.out (Nat.le_trans hn0 hb6.size) hmb), (HF5.out.trans (Fr.of_grown (grown_cell w5 q 1 (.slice A5 (n + 1) c5)) HQ5.out (.inr (.inr rfl)))).trans (Fr.of_map HG7.out HM6.out), HGP.out, ⟨_, _, HQ7⟩,
        .inr (.inr ⟨rfl, rfl, HFU.out, HRE.out, wr.heap.size, A5, c5, HQ7, ho6.byM HM6.out HG7.out, rows_by hr6 HG7.out (fun p hp e => by unfold At at hp; exact HM6.out.ne hp (Option.some.inj e)), HPN.out⟩)⟩
end Go.Proofs.YtlpejbbmemhloaaGreatDoor.Hp
/- Contract of package heap's kid: for every node. -/
namespace Go.Proofs.YtlpejbbmemhloaaGreatDoor.Hp
set_option linter.unusedVariables false
set_option linter.unusedSimpArgs false
set_option maxRecDepth 100000
open Go.ChangeShapes Go.WideShapes Go.ChangeAt Go.RowKit Go.WideMaps Go.Maps
open Go.Proofs.YtlpejbbmemhloaaGreatDoor.Rg (take_at only_H)
open Ar Nd
open BigFrame
open Pk (u8s u8s_length)
open Hk (sum_lit)
/-- the first gap among numbers -/
def gapF : List Ce → Nat → Nat
  | [], _ => 0
  | c :: L, k => if c.num = k + 2 then gapF L (k + 1) + 1 else 0
def gapN (L : List Ce) : Nat := gapF L 0
theorem gapF_at : ∀ (L : List Ce) (k g : Nat), g ≤ L.length → (∀ j c, j < g → L[j]? = some c → c.num = k + j + 2) → (∀ c, L[g]? = some c → c.num ≠ k + g + 2) → gapF L k = g
  | [], k, g, h, _, _ => by
    have : g = 0 := by simpa using h
    rw [this]; rfl
  | c :: L, k, 0, h, _, h2 => by
    have h3 := h2 c rfl
    unfold gapF
    rw [if_neg (by simpa using h3)]
  | c :: L, k, g + 1, h, h1, h2 => by
    have h3 := h1 0 c (Nat.succ_pos _) rfl
    unfold gapF
    rw [if_pos (by simpa using h3), gapF_at L (k + 1) g (by simpa using h) (fun j x hj hx => by have := h1 (j + 1) x (by omega) (by simpa using hx); omega) (fun x hx => by have := h2 x (by simpa using hx); omega)]
theorem gap_L {s : Nat → Ob} {P : List Nat} {g : Nat} (h : GapAt s P g) : gapN (P.map fun p => ceO (s p)) = g := by
  refine gapF_at _ 0 g (by rw [List.length_map]; exact h.1) (fun j c hj hc => ?_) (fun c hc => ?_)
  · rw [List.getElem?_map] at hc
    cases hp : P[j]? with
    | none => rw [hp] at hc; cases hc
    | some p =>
      rw [hp] at hc
      cases hc
      have := h.2.1 j p hj hp
      show (s p).num = _
      omega
  · rw [List.getElem?_map] at hc
    cases hp : P[g]? with
    | none => rw [hp] at hc; cases hc
    | some p =>
      rw [hp] at hc
      cases hc
      have := h.2.2 p hp
      show (s p).num ≠ _
      omega
def allL (L : List Ce) (D : List Kd) : Bool := D.all fun k => (fndL L k.n).isSome
def goodL (L : List Ce) (D : List Kd) : Bool := D.all fun k => match fndL L k.n with | some c => decide (hsD c.d = k.hs) | none => false
theorem all_L (s : Nat → Ob) (P : List Nat) (D : List Kd) : allL (P.map fun p => ceO (s p)) D = allF s P D := by
  unfold allL allF
  congr 1
  funext k
  rw [fnd_LP, Option.isSome_map]
theorem good_L (s : Nat → Ob) (P : List Nat) (D : List Kd) : goodL (P.map fun p => ceO (s p)) D = goodF s P D := by
  unfold goodL goodF
  congr 1
  funext k
  unfold okF
  rw [fnd_LP]
  cases fndP s P k.n <;> rfl
/-- the cells with one more led to by each name -/
def bump (L : List Ce) (nd : Nd) : List Ce := L.map fun c => ⟨c.num, c.d, c.r + (nmsN nd).count c.num⟩
open Classical in
/-- a heap with a node: why not, which cell has it, and the cells then -/
noncomputable def putE (sz : Nat) (L : List Ce) (nd : Nd) : Int :=
  if ckN nd ≠ 0 then ckN nd else if allL L (nmN nd) = true then (if goodL L (nmN nd) = true then (match fstC L (encB nd).data.toList with | some _ => 0 | none => if gapN L + 2 = sz then 8 else if ∃ c ∈ L, 16777216 < c.r + ((nmsN nd).count c.num : Int) then 1 else 0) else 9) else 5
def putNG (L : List Ce) (nd : Nd) : Nat := match fstC L (encB nd).data.toList with | some c => c.num | none => gapN L + 2
def putLG (L : List Ce) (nd : Nd) : List Ce := match fstC L (encB nd).data.toList with | some _ => L | none => (bump L nd).take (gapN L) ++ [⟨gapN L + 2, encB nd, 0⟩] ++ (bump L nd).drop (gapN L)
def kidG (L : List Ce) (nd : Nd) : Kd := ⟨⟨#[]⟩, putNG L nd, hsD (encB nd)⟩
def kd0 : Kd := ⟨⟨#[]⟩, 0, List.replicate 32 0⟩
theorem kd0_cells : (ecK kd0).toArray = zKd := rfl
theorem putE_ck {sz : Nat} {L : List Ce} {nd : Nd} (h : ckN nd ≠ 0) : putE sz L nd = ckN nd := by unfold putE; rw [if_pos h]
theorem putE_all {sz : Nat} {L : List Ce} {nd : Nd} (h : ckN nd = 0) (h1 : allL L (nmN nd) = false) : putE sz L nd = 5 := by
  unfold putE
  rw [if_neg (by simpa using h), if_neg (by rw [h1]; decide)]
theorem putE_bad {sz : Nat} {L : List Ce} {nd : Nd} (h : ckN nd = 0) (h1 : allL L (nmN nd) = true) (h2 : goodL L (nmN nd) = false) : putE sz L nd = 9 := by
  unfold putE
  rw [if_neg (by simpa using h), if_pos h1, if_neg (by rw [h2]; decide)]
theorem putE_has {sz : Nat} {L : List Ce} {nd : Nd} {c : Ce} (h : ckN nd = 0) (h1 : allL L (nmN nd) = true) (h2 : goodL L (nmN nd) = true) (h3 : fstC L (encB nd).data.toList = some c) : putE sz L nd = 0 := by
  unfold putE
  rw [if_neg (by simpa using h), if_pos h1, if_pos h2, h3]
theorem putE_full {sz : Nat} {L : List Ce} {nd : Nd} (h : ckN nd = 0) (h1 : allL L (nmN nd) = true) (h2 : goodL L (nmN nd) = true) (h3 : fstC L (encB nd).data.toList = none) (h4 : gapN L + 2 = sz) : putE sz L nd = 8 := by
  unfold putE
  rw [if_neg (by simpa using h), if_pos h1, if_pos h2, h3]
  exact if_pos h4
theorem putE_much {sz : Nat} {L : List Ce} {nd : Nd} (h : ckN nd = 0) (h1 : allL L (nmN nd) = true) (h2 : goodL L (nmN nd) = true) (h3 : fstC L (encB nd).data.toList = none) (h4 : ¬ gapN L + 2 = sz) (h5 : ∃ c ∈ L, 16777216 < c.r + ((nmsN nd).count c.num : Int)) : putE sz L nd = 1 := by
  unfold putE
  rw [if_neg (by simpa using h), if_pos h1, if_pos h2, h3]
  show (if gapN L + 2 = sz then (8 : Int) else _) = 1
  rw [if_neg h4, if_pos h5]
theorem putE_new {sz : Nat} {L : List Ce} {nd : Nd} (h : ckN nd = 0) (h1 : allL L (nmN nd) = true) (h2 : goodL L (nmN nd) = true) (h3 : fstC L (encB nd).data.toList = none) (h4 : ¬ gapN L + 2 = sz) (h5 : ¬ ∃ c ∈ L, 16777216 < c.r + ((nmsN nd).count c.num : Int)) : putE sz L nd = 0 := by
  unfold putE
  rw [if_neg (by simpa using h), if_pos h1, if_pos h2, h3]
  show (if gapN L + 2 = sz then (8 : Int) else _) = 0
  rw [if_neg h4, if_neg h5]
def KdG (n0 : Nat) (w : World) (q sz mb : Nat) (L : List Ce) (nd : Nd) (e : Ending) (w' : World) : Prop :=
  ∃ (z : Int) (kd : Kd), e = .returned (.tuple #[.agg (ecK kd).toArray, .int .i64 z]) ∧ Below n0 w w' ∧ Fr w w' ∧ z = putE sz L nd ∧ (z = 0 → kd = kidG L nd ∧ KdM n0 w' q sz mb (putLG L nd)) ∧ (z ≠ 0 → kd = kd0) ∧ ∃ v fl, w'.heap[q]? = some (.cells (FlR sz v mb fl 0) 130 (0, 0))
theorem plL_ins {P : List Nat} {s u : Nat → Ob} {E : List Nat} {nd : Nd} {pb k g : Nat} {d : ByteArray} (hce : ∀ p, ceO (u p) = ceO (s p) ∧ (u p).gn = (s p).gn ∧ (u p).r = (s p).r ∧ (u p).num = (s p).num) (hgn : ∀ p ∈ P, (s p).gn = false) (hpb : pb ∉ P) (hc : ∀ p ∈ P, E.count p = (nmsN nd).count (s p).num) :
    plL (P.take g ++ [pb] ++ P.drop g) (upd (hldO u E) pb (newO k d)) = (bump (P.map fun p => ceO (s p)) nd).take g ++ [⟨k, d, 0⟩] ++ (bump (P.map fun p => ceO (s p)) nd).drop g := by
  have h1 : ∀ p ∈ P, upd (hldO u E) pb (newO k d) p = hldO u E p := fun p hp => upd_other (fun e => hpb (e ▸ hp))
  have hm : ∀ p ∈ P.take g ++ [pb] ++ P.drop g, p ∈ P ∨ p = pb := fun p hp => by
    rcases List.mem_append.1 hp with h1 | h1
    · rcases List.mem_append.1 h1 with h2 | h2
      · exact .inl (List.mem_of_mem_take h2)
      · exact .inr (List.mem_singleton.1 h2)
    · exact .inl (List.mem_of_mem_drop h1)
  rw [plL_live (P := P.take g ++ [pb] ++ P.drop g) (s := upd (hldO u E) pb (newO k d)) (fun p hp => by
    rcases hm p hp with h2 | h2
    · rw [h1 p h2]
      show (u p).gn = false
      rw [(hce p).2.1]; exact hgn p h2
    · rw [h2, upd_same]; rfl)]
  have h3 : (P.map fun p => ceO (upd (hldO u E) pb (newO k d) p)) = bump (P.map fun p => ceO (s p)) nd := by
    unfold bump
    rw [List.map_map]
    apply List.map_congr_left
    intro p hp
    rw [h1 p hp]
    have h4 := (hce p).1
    unfold ceO at h4
    simp only [Ce.mk.injEq] at h4
    show (⟨(u p).num, (u p).d, (u p).r + E.count p⟩ : Ce) = ⟨(s p).num, (s p).d, (s p).r + (nmsN nd).count (s p).num⟩
    rw [hc p hp, h4.1, h4.2.1, h4.2.2]
  rw [List.map_append, List.map_append, List.map_take, List.map_drop, h3, List.map_cons, List.map_nil, upd_same]
  rfl
set_option maxHeartbeats 8000000 in
theorem kidG_any {tK tS : TypeId} {n0 q sz mb mn nP cP : Nat} {w : World} {AP : Option Addr} {D : DataW Unit} {P : List Nat} {s : Nat → Ob} {L : List Ce} (hk : Kc tK tS n0 w) (hn0 : n0 ≤ w.heap.size) (hq0 : n0 ≤ q) (hq : w.heap[q]? = some (.cells (FlR sz (.slice AP nP cP) mb 0 0) 130 (0, 0)))
    (htk : Tk n0 w (.slice AP nP cP) P s L) (hsz : sz ≤ 65536) (hmb : n0 ≤ mb) (hM : OwM w mb mn D) (hmn : mn ≤ 65536) (hMp : MpI D L)
    (nd : Nd) (hw : Wd nd) (cs : Array Value) (hN : NdAt w cs nd) :
    Calls Tryz.prog 101 #[.pointer (some ⟨q, 0, none⟩), .agg cs] w (KdG n0 w q sz mb L nd) := by
  by_cases hck : ckN nd = 0
  case neg =>
    have HNA := Lib.hid hN
    obtain ⟨AI, nI, cI, AK, nK, cK, AV, nV, cV, rfl, hrest⟩ := hN
    clear hrest
    obtain ⟨R1, R2, S0, Z0⟩ := two_new w #[.int .u8 nd.kd, .slice AI nI cI, .slice AK nK cK, .slice AV nV cV] zKd 31 45
    have HKB := Lib.hid R2
    have HS := Lib.hid S0
    have HEN := Lib.hid (fun W (hb : Below w.heap.size w W) => encode_any nd hw #[.int .u8 nd.kd, .slice AI nI cI, .slice AK nK cK, .slice AV nV cV] W (HNA.out.below hb))
    have HZ := Lib.hid (show putE sz L nd = ckN nd from putE_ck hck)
    obtain ⟨z1, hz1⟩ : ∃ z1 : Int, ckN nd = z1 := ⟨_, rfl⟩
    rw [hz1] at HEN HZ
    have q0 : ((z1 : Int) != 0) = true := by rw [bne_iff_ne, ← hz1]; exact hck
    have HZN := Lib.hid (show z1 ≠ 0 by rw [← hz1]; exact hck)
    have HQ := Lib.hid hq
    have HQL := Lib.hid (row_lt hq)
    clear R1 R2 S0 Z0 htk hq hk hM hMp hw hck hz1
    go_enter Tryz.func101, Tryz.ntmps101
    go_wp2_with fail
    change Calls _ _ _ ((w.alloc (.cells #[.int .u8 nd.kd, .slice AI nI cI, .slice AK nK cK, .slice AV nV cV] 31)).alloc (.cells zKd 45)) _
    generalize (w.alloc (.cells #[.int .u8 nd.kd, .slice AI nI cI, .slice AK nK cK, .slice AV nV cV] 31)).alloc (.cells zKd 45) = W1 at *
    refine (HEN.out W1 HS.out).mono ?_
    rintro e w2 ⟨rfl, hb2⟩
    have HB2 := Lib.hid (HS.out.trans (hb2.mono HS.out.size))
    have HKB2 := Lib.hid ((hb2.block _ (row_lt HKB.out)).trans HKB.out)
    have HQ2 := Lib.hid ((HB2.out.block _ (row_lt HQ.out)).trans HQ.out)
    clear hb2 HEN HKB HQ
    obtain ⟨Z, hZ⟩ : ∃ Z : Array Value, zKd = Z := ⟨_, rfl⟩
    have HZZ := Lib.hid hZ
    have HZI := Lib.hid (show (Tryz.prog.info? 45).map (·.size) = some Z.size by rw [← hZ]; kernel_rfl)
    have HZS := Lib.hid (show zKd.size = Z.size by rw [hZ])
    have HZO := Lib.hid (show Z.all (·.oneCell') = true by rw [← hZ, ← kd0_cells]; exact all_of_one (ecK_one kd0))
    delta zKd at hZ
    go_wp2_with (refine wpList_store_row rfl 45 (.tmp 4) (.tmp 18) rfl (w.heap.size + 1) Z rfl rfl 45 _ HKB2.out HZI.out HZS.out HZO.out ?_)
    clear hZ
    refine bodyPost_ret (v := .tuple #[.agg Z, .int .i64 z1]) (results_row2 rfl _ _ (w.heap.size + 1) 45 Z (0, 0) _ rfl (setRow_at HKB2.out) Tryz.underlying45 rfl HZI.out _ rfl) rfl ?_
    have hzz : n0 ≤ w2.heap.size := Nat.le_trans hn0 HB2.out.size
    have hbb : Below n0 w w2 := ⟨HB2.out.os, HB2.out.tape, HB2.out.output, HB2.out.size, fun k hk => HB2.out.block k (by omega)⟩
    exact ⟨z1, kd0, by rw [kd0_cells, HZZ.out], hbb.trans (below_of_grown (grown_row _ _ _) hzz (by omega)), (Fr.of_below HB2.out).newRow (Nat.le_succ _) _, HZ.out.symm, fun h => absurd h HZN.out, fun _ => rfl, _, _, row_other (grown_row _ _ _) HQ2.out (by have := HQL.out; omega)⟩
  have HFW := Lib.hid (rt_few (ck_zero.1 hck).1)
  have HNA := Lib.hid hN
  obtain ⟨AI, nI, cI, AK, nK, cK, AV, nV, cV, rfl, hrest⟩ := hN
  clear hrest
  obtain ⟨R1, R2, S0, Z0⟩ := two_new w #[.int .u8 nd.kd, .slice AI nI cI, .slice AK nK cK, .slice AV nV cV] zKd 31 45
  have HNB := Lib.hid R1
  have HKB := Lib.hid R2
  have HS := Lib.hid S0
  have HCK := Lib.hid hck
  have HEN := Lib.hid (fun W (hb : Below w.heap.size w W) => show Calls Tryz.prog 29 #[.agg #[.int .u8 nd.kd, .slice AI nI cI, .slice AK nK cK, .slice AV nV cV]] W fun e w' => e = .returned (.tuple #[.string (encB nd), .int .i64 0]) ∧ Below W.heap.size W w' by have := encode_any nd hw #[.int .u8 nd.kd, .slice AI nI cI, .slice AK nK cK, .slice AV nV cV] W (HNA.out.below hb); rw [hck] at this; exact this)
  have HTK := Lib.hid htk
  have HQ := Lib.hid hq
  have HK := Lib.hid hk
  have HM := Lib.hid hM
  have HMP := Lib.hid hMp
  have HQL := Lib.hid (row_lt hq)
  have HLE := Lib.hid (show (encB nd).size ≤ 512 by
    rw [encB_yes hck]
    have := (enc_len hw hck).1
    simpa [bs_size] using this)
  have HDS := Lib.hid (fun (W : World) (hK : Kc tK tS n0 W) => show Calls Tryz.prog 30 #[.string (encB nd)] W fun e w' => ∃ C, C = (u8s (hsD (encB nd))).toArray ∧ e = .returned (.agg C) ∧ Below W.heap.size W w' from sum_lit (tK := tK) (tS := tS) (encB nd) (by have := HLE.out; omega) W hK.r hK.i)
  have HWD := Lib.hid hw
  have HLS := Lib.hid (decN_small (dec_enc hw hck)).2
  clear R1 R2 S0 Z0 htk hq hk hM hMp hw hck
  go_enter Tryz.func101, Tryz.ntmps101
  go_wp2_with fail
  change Calls _ _ _ ((w.alloc (.cells #[.int .u8 nd.kd, .slice AI nI cI, .slice AK nK cK, .slice AV nV cV] 31)).alloc (.cells zKd 45)) _
  generalize (w.alloc (.cells #[.int .u8 nd.kd, .slice AI nI cI, .slice AK nK cK, .slice AV nV cV] 31)).alloc (.cells zKd 45) = W1 at *
  refine (HEN.out W1 HS.out).mono ?_
  rintro e w2 ⟨rfl, hb2⟩
  have HB2 := Lib.hid (HS.out.trans ((hb2.mono HS.out.size).trans (show Below w.heap.size w2 w2.drew from (Below.refl _ _).drew)))
  have HNR2 := Lib.hid (show w2.drew.heap[w.heap.size]? = some (.cells #[.int .u8 nd.kd, .slice AI nI cI, .slice AK nK cK, .slice AV nV cV] 31 (0, 0)) from (hb2.block _ (row_lt HNB.out)).trans HNB.out)
  have HKB2 := Lib.hid (show w2.drew.heap[w.heap.size + 1]? = some (.cells zKd 45 (0, 0)) from (hb2.block _ (row_lt HKB.out)).trans HKB.out)
  have HNB2 := Lib.hid (show w2.drew.rangeAt w.heap.size 0 [.int .u8 nd.kd, .slice AI nI cI, .slice AK nK cK, .slice AV nV cV] from rangeAt_row HNR2.out (fun j v hv => by rw [Nat.zero_add]; simpa using hv))
  have HTK2 := Lib.hid (HTK.out.go HB2.out)
  have HQ2 := Lib.hid ((HB2.out.block _ (row_lt HQ.out)).trans HQ.out)
  have HK2 := Lib.hid (HK.out.below ⟨HB2.out.os, HB2.out.tape, HB2.out.output, HB2.out.size, fun k hk => HB2.out.block k (by omega)⟩)
  have HZ2 := Lib.hid (Nat.le_trans hn0 HB2.out.size)
  have HBL := Lib.hid (below_any (HTK2.out.wk HQ2.out (by decide) rfl) HK2.out HZ2.out (fun p hp => by have := isN_size (HTK2.out.isn p hp); omega) (fun p hp => by have := (HTK2.out.ale hp).1; omega) nd HWD.out HLS.out.2.1 HLS.out.2.2 #[.int .u8 nd.kd, .slice AI nI cI, .slice AK nK cK, .slice AV nV cV] (HNA.out.below HB2.out))
  clear hb2 HEN HNB HKB HTK HQ
  go_wp2_with fail
  refine wp_region_held_drew (S := fun w' : World => w'.rangeAt w.heap.size 0 [.int .u8 nd.kd, .slice AI nI cI, .slice AK nK cK, .slice AV nV cV]) (by kernel_rfl) HNB2.out (fun hHeld => ?_)
  generalize hw2d : w2.drew = w2d at *
  have hS : (fun w' : World => w'.rangeAt w.heap.size 0 [.int .u8 nd.kd, .slice AI nI cI, .slice AK nK cK, .slice AV nV cV]) w2d := HNB2.out
  clear hHeld
  refine take_at 0 21 (.pointer (some ⟨q, 0, none⟩)) rfl (by rfl) (by kernel_rfl) (by kernel_rfl) (by kernel_rfl) (fun _ _ _ h => h) (Or.inl ⟨by rfl, fun w' hSw => by go_simp⟩) hS ?_
  simp only [List.setIfInBounds_toArray, List.set_cons_zero, List.set_cons_succ]
  refine take_at 1 22 (.pointer (some ⟨q, 0, none⟩)) rfl (by rfl) (by kernel_rfl) (by kernel_rfl) (by kernel_rfl) (fun _ _ _ h => h) (Or.inl ⟨by rfl, fun w' hSw => by go_simp⟩) hS ?_
  simp only [List.setIfInBounds_toArray, List.set_cons_zero, List.set_cons_succ]
  refine take_at 2 23 (.pointer (some ⟨q, 0, none⟩)) rfl (by rfl) (by kernel_rfl) (by kernel_rfl) (by kernel_rfl) (fun _ _ _ h => h) (Or.inl ⟨by rfl, fun w' hSw => by go_simp⟩) hS ?_
  simp only [List.setIfInBounds_toArray, List.set_cons_zero, List.set_cons_succ]
  refine take_at 3 24 (.agg #[.int .u8 nd.kd, .slice AI nI cI, .slice AK nK cK, .slice AV nV cV]) rfl (by rfl) (by kernel_rfl) (by kernel_rfl) (by kernel_rfl) (fun _ _ _ h => h) (yieldsIf_load_mid (by rfl) 31 (.tmp 3) rfl w.heap.size 0 rfl [.int .u8 nd.kd, .slice AI nI cI, .slice AK nK cK, .slice AV nV cV] _ (fun w' hSw => hSw) Tryz.underlying31 rfl info4n) hS ?_
  simp only [List.setIfInBounds_toArray, List.set_cons_zero, List.set_cons_succ]
  refine only_H 4 rfl (by kernel_rfl) (by rfl) (fun K hK => ?_)
  go_wp2_with fail
  go_at_call 91
  refine HBL.out.mono ?_
  rintro e w3 ⟨E, u, v3, z3, rfl, hH3, ho3, hu3, ⟨A3, n3, c3, rfl⟩, hz3⟩
  have HZ3 := Lib.hid hz3
  have HH3 := Lib.hid hH3
  have HF3 := Lib.hid ho3
  have HU3 := Lib.hid hu3
  have HNR3 := Lib.hid (ho3.row HNR2.out (by decide))
  have HKB3 := Lib.hid (ho3.row HKB2.out (by decide))
  have hS2 : (fun w' : World => w'.rangeAt w.heap.size 0 [.int .u8 nd.kd, .slice AI nI cI, .slice AK nK cK, .slice AV nV cV]) w3 := rangeAt_row HNR3.out (fun j v hv => by rw [Nat.zero_add]; simpa using hv)
  clear hz3 hH3 ho3 hu3
  refine hK.out _ _ hS2 ?_
  clear hK K hS
  have hS := hS2
  clear hS2
  try simp only [Act.put, List.setIfInBounds_toArray, List.set_cons_zero, List.set_cons_succ]
  refine take_at 5 20 (.tuple #[.slice A3 n3 c3, .int .i64 z3]) rfl (by rfl) (by kernel_rfl) (by kernel_rfl) (by kernel_rfl) (fun _ _ _ h => h) (Or.inl ⟨by rfl, fun w' hSw => by go_simp⟩) hS ?_
  simp only [List.setIfInBounds_toArray, List.set_cons_zero, List.set_cons_succ]
  refine take_at 6 26 (.slice A3 n3 c3) rfl (by rfl) (by kernel_rfl) (by kernel_rfl) (by kernel_rfl) (fun _ _ _ h => h) (Or.inl ⟨by rfl, fun w' hSw => by go_simp⟩) hS ?_
  simp only [List.setIfInBounds_toArray, List.set_cons_zero, List.set_cons_succ]
  refine take_at 7 27 (.int .i64 z3) rfl (by rfl) (by kernel_rfl) (by kernel_rfl) (by kernel_rfl) (fun _ _ _ h => h) (Or.inl ⟨by rfl, fun w' hSw => by go_simp⟩) hS ?_
  simp only [List.setIfInBounds_toArray, List.set_cons_zero, List.set_cons_succ]
  refine take_at 8 8 (.slice A3 n3 c3) rfl (by rfl) (by kernel_rfl) (by kernel_rfl) (by kernel_rfl) (fun _ _ _ h => h) (Or.inl ⟨by rfl, fun w' hSw => by go_simp⟩) hS ?_
  simp only [List.setIfInBounds_toArray, List.set_cons_zero, List.set_cons_succ]
  refine take_at 9 7 (.int .i64 z3) rfl (by rfl) (by kernel_rfl) (by kernel_rfl) (by kernel_rfl) (fun _ _ _ h => h) (Or.inl ⟨by rfl, fun w' hSw => by go_simp⟩) hS ?_
  simp only [List.setIfInBounds_toArray, List.set_cons_zero, List.set_cons_succ]
  refine wpAnyH_done (by kernel_rfl) ?_ _
  have HQ3 := Lib.hid (HF3.out.row HQ2.out (by decide))
  have m2 : w3.cell? ⟨q, 2, none⟩ = some (.map (some mb)) := cell_of_row _ _ 2 _ _ _ HQ3.out
  have l3 := row_lt HQ3.out
  have HM3 := Lib.hid ((HM.out.go HB2.out).off HF3.out)
  have HK3 := Lib.hid (HK2.out.off HF3.out)
  have HKEY := Lib.hid (key_of (d := encB nd) (by unfold maxLen; have := HLE.out; omega))
  have HHAS := Lib.hid (HMP.out.has (encB nd).data.toList)
  have HHL := Lib.hid (hsD_len (encB nd))
  have HB3 := Lib.hid (show Below n0 w w3 from (show Below n0 w w2d from ⟨HB2.out.os, HB2.out.tape, HB2.out.output, HB2.out.size, fun k hk => HB2.out.block k (by omega)⟩).trans (HF3.out.below HZ2.out))
  have HR3 := Lib.hid ((Fr.of_below HB2.out).trans (Fr.of_off HF3.out))
  have HOP3 := Lib.hid (show OwP n0 w3 (.slice AP nP cP) P from HF3.out.own (by decide) HTK2.out.own)
  have HCE := Lib.hid (show ∀ p, ceO (u p) = ceO (s p) ∧ (u p).gn = (s p).gn ∧ (u p).r = (s p).r ∧ (u p).num = (s p).num from fun p => by rw [HU3.out]; exact ⟨rfl, rfl, rfl, rfl⟩)
  have HPNL := Lib.hid (show nP = P.length by
    obtain ⟨A', c', h, _⟩ := HTK2.out.own.ls
    simp only [Value.slice.injEq] at h
    exact h.2.1)
  have HLT := Lib.hid (show L = P.map fun p => ceO (s p) from HTK2.out.lst)
  by_cases hz : z3 = 0
  case neg =>
    have q0 : ((z3 : Int) != 0) = true := by rw [bne_iff_ne]; exact hz
    have HZE := Lib.hid (show z3 = putE sz L nd by
      rcases HZ3.out with ⟨h1, h2⟩ | ⟨h1, h2, _⟩
      · rw [putE_all HCK.out (by rw [HLT.out, all_L]; exact h2)]; exact h1
      · cases hgd : goodF s P (nmN nd) with
        | true => rw [hgd] at h2; exact absurd h2 hz
        | false => rw [putE_bad HCK.out (by rw [HLT.out, all_L]; exact h1) (by rw [HLT.out, good_L]; exact hgd), h2, hgd]; rfl)
    have HZN := Lib.hid hz
    clear hz m2 l3 hS
    obtain ⟨Z, hZ⟩ : ∃ Z : Array Value, zKd = Z := ⟨_, rfl⟩
    have HZZ := Lib.hid hZ
    have HZI := Lib.hid (show (Tryz.prog.info? 45).map (·.size) = some Z.size by rw [← hZ]; kernel_rfl)
    have HZS := Lib.hid (show zKd.size = Z.size by rw [hZ])
    have HZO := Lib.hid (show Z.all (·.oneCell') = true by rw [← hZ, ← kd0_cells]; exact all_of_one (ecK_one kd0))
    delta zKd at hZ
    go_wp2_with (refine wpList_store_row rfl 45 (.tmp 4) (.tmp 30) rfl (w.heap.size + 1) Z rfl rfl 45 _ HKB3.out HZI.out HZS.out HZO.out ?_)
    clear hZ
    refine bodyPost_ret (v := .tuple #[.agg Z, .int .i64 z3]) (results_row2 rfl _ _ (w.heap.size + 1) 45 Z (0, 0) _ rfl (setRow_at HKB3.out) Tryz.underlying45 rfl HZI.out _ rfl) rfl ?_
    exact ⟨z3, kd0, by rw [kd0_cells, HZZ.out], HB3.out.trans (below_of_grown (grown_row _ _ _) (Nat.le_trans hn0 HR3.out.1) (by omega)), HR3.out.newRow (Nat.le_succ _) _, HZE.out, fun h => absurd h HZN.out, fun _ => rfl, _, _, row_other (grown_row _ _ _) HQ3.out (by have := HQL.out; omega)⟩
  subst hz
  obtain ⟨hALL, hGOOD, hE, hO3⟩ : allF s P (nmN nd) = true ∧ goodF s P (nmN nd) = true ∧ E = psF s P (nmN nd) ∧ OwP w2d.heap.size w3 (.slice A3 n3 c3) E := by
    rcases HZ3.out with ⟨h1, _⟩ | ⟨h1, h2, h3, h4⟩
    · cases h1
    · cases hgd : goodF s P (nmN nd) with
      | true => exact ⟨h1, rfl, h3, h4⟩
      | false => rw [hgd] at h2; cases h2
  have HALL := Lib.hid hALL
  have HAL := Lib.hid (show allL L (nmN nd) = true by rw [HLT.out, all_L]; exact hALL)
  have HGL := Lib.hid (show goodL L (nmN nd) = true by rw [HLT.out, good_L]; exact hGOOD)
  have HE := Lib.hid hE
  have HOE := Lib.hid hO3
  clear hALL hGOOD hE hO3
  clear HBL HNA HNB2 HNR2 HNR3 HKB2 HQ2 HM hS
  cases hf : fstC L (encB nd).data.toList with
  | some c0 =>
    have hh : Maps.has D (.string (encB nd).data.toList) = true := by rw [HHAS.out, hf]; rfl
    have HAT := Lib.hid (HMP.out.at_ _ c0 hf (.lit (.int .u32 0)))
    have HPU := Lib.hid (show putNG L nd = c0.num ∧ putLG L nd = L by unfold putNG putLG; rw [hf]; exact ⟨rfl, rfl⟩)
    have HPE := Lib.hid (show putE sz L nd = 0 from putE_has HCK.out HAL.out HGL.out hf)
    obtain ⟨y, hy⟩ : ∃ y : Kd, kidG L nd = y := ⟨_, rfl⟩
    have HY := Lib.hid hy
    have hb1 := kid_built y (by rw [← hy]; rfl) (by rw [← hy]; exact HHL.out)
    rw [show y.n = c0.num by rw [← hy]; exact HPU.out.1, show y.hs = hsD (encB nd) by rw [← hy]; rfl] at hb1
    have hz1 : (u8s (hsD (encB nd))).length = 32 := by rw [u8s_length, HHL.out]
    have hz2 : (hsD (encB nd)).length = 32 := HHL.out
    have HSZY := Lib.hid (show zKd.size = (ecK y).toArray.size from (show zKd.size = 34 from rfl).trans (ecK_sz y))
    clear hf hy
    go_wp2_with (at_lookup; refine wpList_lookup_own_ok_int _ rfl _ _ 127 rfl 9 22 .u32 kLaw Tryz.underlying127 Tryz.underlying22 (zeroU _) mb mn D rfl HM3.out _ _ rfl HKEY.out ?_; intro vv hat hwc; have h2 := HAT.out.symm.trans hat; go_loud (simp only [DataW.lit.injEq, Lit.int.injEq, true_and] at h2); subst h2; clear hat hwc)
    have HKD := Lib.hid (show KdM n0 w3 q sz mb (putLG L nd) from ⟨AP, nP, cP, 0, P, u, HQ3.out, HOP3.out, HH3.out.rows, by have := HTK2.out.len; omega, by
      rw [HPU.out.2, plL_live (fun p hp => by rw [(HCE.out p).2.1]; exact HTK2.out.gn p hp), HTK2.out.lst]
      apply List.map_congr_left
      intro p _
      exact (HCE.out p).1⟩)
    refine (HDS.out _ HK3.out).mono ?_
    rintro e w6 ⟨C, rfl, rfl, hb6⟩
    have HB6 := Lib.hid hb6
    have HKB6 := Lib.hid ((hb6.block _ (row_lt HKB3.out)).trans HKB3.out)
    clear hb6
    go_wp2_with (refine wpList_store_row rfl 45 (.tmp 4) (.tmp 57) rfl (w.heap.size + 1) (ecK y).toArray rfl rfl 45 _ HKB6.out (infoKa y) HSZY.out (all_of_one (ecK_one y)) ?_)
    refine bodyPost_ret (v := .tuple #[.agg (ecK y).toArray, .int .i64 0]) (results_row2 rfl _ _ (w.heap.size + 1) 45 (ecK y).toArray (0, 0) _ rfl (setRow_at HKB6.out) Tryz.underlying45 rfl (infoKa y) _ rfl) rfl ?_
    have hz6 : w.heap.size ≤ w6.heap.size := Nat.le_trans HR3.out.1 HB6.out.size
    have hbb : Below n0 w w6 := HB3.out.trans (HB6.out.mono (Nat.le_trans hn0 HR3.out.1))
    have HKF := (HKD.out.go HB6.out).by_ HKB6.out (by decide) (grown_row w6 (w.heap.size + 1) (ecK y).toArray)
    obtain ⟨v9, fl9, hq9⟩ := HKF.fd
    exact ⟨0, y, rfl, hbb.trans (below_of_grown (grown_row _ _ _) (Nat.le_trans hn0 hz6) (by omega)), (HR3.out.trans (Fr.of_below HB6.out)).newRow (Nat.le_succ _) _, HPE.out.symm, fun _ => ⟨HY.out.symm, HKF⟩, fun h => absurd rfl h, v9, fl9, hq9⟩
  | none =>
    have hh : Maps.has D (.string (encB nd).data.toList) = false := by rw [HHAS.out, hf]; rfl
    have HCNT := Lib.hid (show ∀ p ∈ P, E.count p = (nmsN nd).count (s p).num from fun p hp => by
      unfold nmsN
      rw [← names_num HALL.out, HE.out]
      exact (count_map_inj (f := fun q => (s q).num) fun q hq e => up_inj HTK2.out.up (psF_mem q hq) hp e).symm)
    have hEl : n3 = E.length := by
      obtain ⟨A', c', h, _⟩ := OwP.ls HOE.out
      simp only [Value.slice.injEq] at h
      exact h.2.1
    have hE255 : E.length ≤ 65536 := by
      have h1 : E.length ≤ (nmN nd).length := by rw [HE.out]; exact psF_len _ _ _
      have h2 := nmN_le HLS.out.2.1 HLS.out.2.2
      omega
    have HPL65 := Lib.hid HTK2.out.len
    have HAD := Lib.hid (addG_any (E := E) (s := u) (encB nd) HQ3.out HPNL.out (by have := HPL65.out; have := HPNL.out; omega) hsz HOP3.out HH3.out (Nat.le_trans HZ2.out HF3.out.size) hq0 HM3.out hmn hmb (own_ls enP_len (by have := HOE.out; unfold OwP at this; exact this)) hEl (by omega) (World.ownsRow.mono HOE.out HZ2.out) (fun p hp => by rw [HE.out] at hp; exact psF_mem p hp) (fun p hp => by
        have h1 := HTK2.out.ale hp
        have h2 := (HTK2.out.rf p hp).2
        rw [(HCE.out p).2.2.1]
        exact ⟨h1.2, h2⟩) HLE.out)
    have HNF := Lib.hid hf
    clear hf hEl hE255
    go_wp2_with (at_lookup; refine wpList_lookup_own_ok_int _ rfl _ _ 127 rfl 9 22 .u32 kLaw Tryz.underlying127 Tryz.underlying22 (zeroU _) mb mn D rfl HM3.out _ _ rfl HKEY.out ?_; intro vv hat hwc; clear hat hwc)
    (with_reducible refine HAD.out.mono ?_)
    rintro e w4 ⟨z4, num4, g4, rfl, hb4, hfr4, hgap4, ⟨v4, fl4, hrow4⟩, hR4⟩
    have hgL : gapN L = g4 := by
      rw [HLT.out, ← gap_L hgap4]
      congr 1
      exact List.map_congr_left fun p _ => ((HCE.out p).1).symm
    have HGG := Lib.hid hgL
    have HB4 := Lib.hid (HB3.out.trans hb4)
    have HR4 := Lib.hid (HR3.out.trans hfr4)
    have HK4 := Lib.hid (HK3.out.below hb4)
    have HKB4 := Lib.hid (hfr4.2 _ _ _ _ (by decide) HKB3.out)
    have HRW4 := Lib.hid hrow4
    have HRR4 := Lib.hid hR4
    clear hb4 hfr4 hgap4 hrow4 hR4 hgL HAD
    have hmc : ∀ p ∈ P, (u p).r + (E.count p : Int) = (ceO (s p)).r + ((nmsN nd).count (ceO (s p)).num : Int) := fun p hp => by
      rw [(HCE.out p).2.2.1, HCNT.out p hp]; rfl
    by_cases hz4 : z4 = 0
    case neg =>
      have q0 : ((z4 : Int) != 0) = true := by rw [bne_iff_ne]; exact hz4
      have HZE := Lib.hid (show z4 = putE sz L nd by
        rcases HRR4.out with ⟨h1, h2⟩ | ⟨h1, h2, p, hp, h3⟩ | ⟨h1, _⟩
        · rw [putE_full HCK.out HAL.out HGL.out HNF.out (by rw [HGG.out]; exact h2)]; exact h1
        · rw [putE_much HCK.out HAL.out HGL.out HNF.out (by rw [HGG.out]; exact h2) ⟨ceO (s p), by rw [HLT.out]; exact List.mem_map.2 ⟨p, hp, rfl⟩, by rw [← hmc p hp]; exact h3⟩]; exact h1
        · exact absurd h1 hz4)
      have HZN := Lib.hid hz4
      clear hz4 hmc
      obtain ⟨Z, hZ⟩ : ∃ Z : Array Value, zKd = Z := ⟨_, rfl⟩
      have HZZ := Lib.hid hZ
      have HZI := Lib.hid (show (Tryz.prog.info? 45).map (·.size) = some Z.size by rw [← hZ]; kernel_rfl)
      have HZS := Lib.hid (show zKd.size = Z.size by rw [hZ])
      have HZO := Lib.hid (show Z.all (·.oneCell') = true by rw [← hZ, ← kd0_cells]; exact all_of_one (ecK_one kd0))
      delta zKd at hZ
      go_wp2_with (refine wpList_store_row rfl 45 (.tmp 4) (.tmp 52) rfl (w.heap.size + 1) Z rfl rfl 45 _ HKB4.out HZI.out HZS.out HZO.out ?_)
      clear hZ
      refine bodyPost_ret (v := .tuple #[.agg Z, .int .i64 z4]) (results_row2 rfl _ _ (w.heap.size + 1) 45 Z (0, 0) _ rfl (setRow_at HKB4.out) Tryz.underlying45 rfl HZI.out _ rfl) rfl ?_
      exact ⟨z4, kd0, by rw [kd0_cells, HZZ.out], HB4.out.trans (below_of_grown (grown_row _ _ _) (Nat.le_trans hn0 HR4.out.1) (by omega)), HR4.out.newRow (Nat.le_succ _) _, HZE.out, fun h => absurd h HZN.out, fun _ => rfl, _, _, row_other (grown_row _ _ _) HRW4.out (by have := HQL.out; omega)⟩
    subst hz4
    obtain ⟨hn4, hne4, hall4, pb, A4, c4, hq4, ho4, hr4, hpb⟩ : num4 = g4 + 2 ∧ g4 + 2 ≠ sz ∧ (∀ p ∈ P, (u p).r + (E.count p : Int) ≤ 16777216) ∧ AdGd n0 w4 q sz mb nP g4 0 P u E (encB nd) := by
      rcases HRR4.out with ⟨h1, _⟩ | ⟨h1, _⟩ | ⟨_, h2, h3, h4, h5⟩
      · cases h1
      · cases h1
      · exact ⟨h2, h3, h4, h5⟩
    have HPE := Lib.hid (show putE sz L nd = 0 from putE_new HCK.out HAL.out HGL.out HNF.out (by rw [HGG.out]; exact hne4) (fun ⟨c, hc, h⟩ => by
      rw [HLT.out] at hc
      obtain ⟨p, hp, rfl⟩ := List.mem_map.1 hc
      rw [← hmc p hp] at h
      have := hall4 p hp
      omega))
    have HPU := Lib.hid (show putNG L nd = num4 ∧ putLG L nd = (bump L nd).take g4 ++ [⟨g4 + 2, encB nd, 0⟩] ++ (bump L nd).drop g4 by
      unfold putNG putLG
      rw [HNF.out, HGG.out]
      exact ⟨hn4.symm, rfl⟩)
    have HKD := Lib.hid (show KdM n0 w4 q sz mb (putLG L nd) from ⟨A4, nP + 1, c4, g4, P.take g4 ++ [pb] ++ P.drop g4, _, hq4, ho4, hr4, by have := HTK2.out.len; rw [List.length_append, List.length_append, List.length_singleton, List.length_take, List.length_drop]; omega, by rw [HPU.out.2, HLT.out]; exact plL_ins HCE.out HTK2.out.gn hpb HCNT.out⟩)
    clear hn4 hne4 hall4 hq4 ho4 hr4 hpb hmc
    obtain ⟨y, hy⟩ : ∃ y : Kd, kidG L nd = y := ⟨_, rfl⟩
    have HY := Lib.hid hy
    have hb1 := kid_built y (by rw [← hy]; rfl) (by rw [← hy]; exact HHL.out)
    rw [show y.n = num4 by rw [← hy]; exact HPU.out.1, show y.hs = hsD (encB nd) by rw [← hy]; rfl] at hb1
    have hz1 : (u8s (hsD (encB nd))).length = 32 := by rw [u8s_length, HHL.out]
    have hz2 : (hsD (encB nd)).length = 32 := HHL.out
    have HSZY := Lib.hid (show zKd.size = (ecK y).toArray.size from (show zKd.size = 34 from rfl).trans (ecK_sz y))
    clear hy
    go_wp2_with fail
    refine (HDS.out _ HK4.out).mono ?_
    rintro e w6 ⟨C, rfl, rfl, hb6⟩
    have HB6 := Lib.hid hb6
    have HKB6 := Lib.hid ((hb6.block _ (row_lt HKB4.out)).trans HKB4.out)
    clear hb6
    go_wp2_with (refine wpList_store_row rfl 45 (.tmp 4) (.tmp 57) rfl (w.heap.size + 1) (ecK y).toArray rfl rfl 45 _ HKB6.out (infoKa y) HSZY.out (all_of_one (ecK_one y)) ?_)
    refine bodyPost_ret (v := .tuple #[.agg (ecK y).toArray, .int .i64 0]) (results_row2 rfl _ _ (w.heap.size + 1) 45 (ecK y).toArray (0, 0) _ rfl (setRow_at HKB6.out) Tryz.underlying45 rfl (infoKa y) _ rfl) rfl ?_
    have hz6 : w.heap.size ≤ w6.heap.size := Nat.le_trans HR4.out.1 HB6.out.size
    have hbb : Below n0 w w6 := HB4.out.trans (HB6.out.mono (Nat.le_trans hn0 HR4.out.1))
    have HKF := (HKD.out.go HB6.out).by_ HKB6.out (by decide) (grown_row w6 (w.heap.size + 1) (ecK y).toArray)
    obtain ⟨v9, fl9, hq9⟩ := HKF.fd
    exact ⟨0, y, rfl, hbb.trans (below_of_grown (grown_row _ _ _) (Nat.le_trans hn0 hz6) (by omega)), (HR4.out.trans (Fr.of_below HB6.out)).newRow (Nat.le_succ _) _, HPE.out.symm, fun _ => ⟨HY.out.symm, HKF⟩, fun h => absurd rfl h, v9, fl9, hq9⟩
end Go.Proofs.YtlpejbbmemhloaaGreatDoor.Hp
/- Contract of package heap's put (of filling) and of the literal in Put, for every node. -/
namespace Go.Proofs.YtlpejbbmemhloaaGreatDoor.Hp
set_option linter.unusedVariables false
set_option linter.unusedSimpArgs false
set_option maxRecDepth 100000
open Go.ChangeShapes Go.WideShapes Go.ChangeAt Go.RowKit Go.WideMaps Go.Maps
open Ar Nd
open BigFrame
open Pk (u8s u8s_length)
/-- what a put leaves: as kid does, its error noted -/
def PtG (n0 : Nat) (w : World) (q sz mb : Nat) (L : List Ce) (nd : Nd) (e : Ending) (w' : World) : Prop :=
  ∃ (z : Int) (kd : Kd), e = .returned (.tuple #[.agg (ecK kd).toArray, .int .i64 z]) ∧ Below n0 w w' ∧ Fr w w' ∧ z = putE sz L nd ∧ (z = 0 → kd = kidG L nd ∧ KdM n0 w' q sz mb (putLG L nd)) ∧ (z ≠ 0 → kd = kd0) ∧ ∃ v fl, w'.heap[q]? = some (.cells (FlR sz v mb fl z) 130 (0, 0))
set_option maxHeartbeats 8000000 in
theorem putG_any {tK tS : TypeId} {n0 q sz mb mn nP cP : Nat} {w : World} {AP : Option Addr} {D : DataW Unit} {P : List Nat} {s : Nat → Ob} {L : List Ce} (hk : Kc tK tS n0 w) (hn0 : n0 ≤ w.heap.size) (hq0 : n0 ≤ q) (hq : w.heap[q]? = some (.cells (FlR sz (.slice AP nP cP) mb 0 0) 130 (0, 0)))
    (htk : Tk n0 w (.slice AP nP cP) P s L) (hsz : sz ≤ 65536) (hmb : n0 ≤ mb) (hM : OwM w mb mn D) (hmn : mn ≤ 65536) (hMp : MpI D L)
    (nd : Nd) (hw : Wd nd) (cs : Array Value) (hN : NdAt w cs nd) :
    Calls Tryz.prog 76 #[.pointer (some ⟨q, 0, none⟩), .agg cs] w (PtG n0 w q sz mb L nd) := by
  have HKD := Lib.hid (fun W (hb : Below w.heap.size w W) => kidG_any (hk.below ⟨hb.os, hb.tape, hb.output, hb.size, fun k hk => hb.block k (by omega)⟩) (Nat.le_trans hn0 hb.size) hq0 ((hb.block _ (row_lt hq)).trans hq) (htk.go hb) hsz hmb (hM.go hb) hmn hMp nd hw cs (hN.below hb))
  obtain ⟨AI, nI, cI, AK, nK, cK, AV, nV, cV, rfl, hrest⟩ := hN
  clear hrest
  obtain ⟨R1, R2, S0, Z0⟩ := two_new w #[.int .u8 nd.kd, .slice AI nI cI, .slice AK nK cK, .slice AV nV cV] zKd 31 45
  have HNB := Lib.hid R1
  have HKB := Lib.hid R2
  have HS := Lib.hid S0
  have HQ := Lib.hid ((S0.block _ (row_lt hq)).trans hq)
  have hkq : w.heap.size + 1 ≠ q := by
    have := row_lt hq
    omega
  have c4 : ((w.alloc (.cells #[.int .u8 nd.kd, .slice AI nI cI, .slice AK nK cK, .slice AV nV cV] 31)).alloc (.cells zKd 45)).cell? ⟨q, 4, none⟩ = some (.int .i64 0) := cell_of_row _ _ 4 _ _ _ HQ.out
  have l4 := row_lt HQ.out
  clear R1 R2 S0 Z0 htk hq hk hM hMp hw
  go_enter Tryz.func76, Tryz.ntmps76
  go_wp2_with fail
  change Calls _ _ _ ((w.alloc (.cells #[.int .u8 nd.kd, .slice AI nI cI, .slice AK nK cK, .slice AV nV cV] 31)).alloc (.cells zKd 45)) _
  generalize (w.alloc (.cells #[.int .u8 nd.kd, .slice AI nI cI, .slice AK nK cK, .slice AV nV cV] 31)).alloc (.cells zKd 45) = W1 at *
  refine (HKD.out W1 HS.out).mono ?_
  rintro e w2 ⟨z, y, rfl, hb2, hfr2, hz2, hkd2, hno2, v2, fl2, hrow2⟩
  have HZ2 := Lib.hid hz2
  have HNO2 := Lib.hid hno2
  have HRW2 := Lib.hid hrow2
  have HB2 := Lib.hid (show Below n0 w w2 from (show Below n0 w W1 from ⟨HS.out.os, HS.out.tape, HS.out.output, HS.out.size, fun k hk => HS.out.block k (by omega)⟩).trans hb2)
  have HR2 := Lib.hid ((Fr.of_below HS.out).trans hfr2)
  have HKD2 := Lib.hid hkd2
  have HKB2 := Lib.hid (hfr2.2 _ _ _ _ (by decide) HKB.out)
  have HSZY := Lib.hid (show zKd.size = (ecK y).toArray.size from (show zKd.size = 34 from rfl).trans (ecK_sz y))
  clear hb2 hfr2 hkd2 hz2 hno2 hrow2 HKD HNB HQ c4
  have hq2 : q < w2.heap.size := row_lt HRW2.out
  go_wp2_with (first | (refine wpList_fresh rfl 45 (.tmp 6) (.tmp 22) rfl (ecK y).toArray _ _ rfl rfl (infoKa y) HSZY.out (all_of_one (ecK_one y)) ?_; intro w3 hb3 hr3 hz3; have HB3 := Lib.hid hb3; have HF3 := Lib.hid hr3; have hq4 := (hb3.block _ hq2).trans HRW2.out; have HQ3 := Lib.hid hq4; have c4 : w3.cell? ⟨q, 4, none⟩ = some (.int .i64 0) := cell_of_row _ _ 4 _ _ _ hq4; have f4 := frozen_of_row w3 q 4 _ _ hq4; have l4 := row_lt hq4; have HKB3 := Lib.hid ((hb3.block _ (row_lt HKB2.out)).trans HKB2.out); have HF4 := Lib.hid (row_cell (q := q) (i := 4) (u := .int .i64 z) hr3 (by omega)); have HKB4 := Lib.hid (row_cell (q := q) (i := 4) (u := .int .i64 z) HKB3.out hkq); clear hb3 hr3 hz3 hq4) | (refine wpList_load_row rfl 45 (.tmp 6) rfl w2.heap.size rfl 45 (ecK y).toArray (0, 0) _ HF4.out Tryz.underlying45 rfl (infoKa y) ?_) | (refine wpList_store_row rfl 45 (.tmp 4) (.tmp 28) rfl (w.heap.size + 1) (ecK y).toArray rfl rfl 45 _ HKB4.out (infoKa y) HSZY.out (all_of_one (ecK_one y)) ?_))
  refine bodyPost_ret (v := .tuple #[.agg (ecK y).toArray, .int .i64 z]) (results_row2 rfl _ _ (w.heap.size + 1) 45 (ecK y).toArray (0, 0) _ rfl (setRow_at HKB4.out) Tryz.underlying45 rfl (infoKa y) _ rfl) rfl ?_
  have hz2 : n0 ≤ w2.heap.size := Nat.le_trans hn0 (HB2.out.size)
  have hz3 : n0 ≤ w3.heap.size := Nat.le_trans hz2 HB3.out.size
  have hz4 : n0 ≤ (w3.setCell ⟨q, 4, none⟩ (.int .i64 z)).heap.size := Nat.le_trans hz3 (grown_cell w3 q 4 _).size
  have hrw4 : (w3.setCell ⟨q, 4, none⟩ (.int .i64 z)).heap[q]? = some (.cells (FlR sz v2 mb fl2 z) 130 (0, 0)) := row_set (cs := [.int .u32 sz, v2, .map (some mb), .int .i64 fl2, .int .i64 0]) (i := 4) HQ3.out
  refine ⟨z, y, rfl, ((HB2.out.trans (HB3.out.mono hz2)).trans (below_of_grown (grown_cell w3 q 4 _) hz3 hq0)).trans (below_of_grown (grown_row _ _ _) hz4 (by omega)), ((HR2.out.trans (Fr.of_below HB3.out)).trans (Fr.of_grown (grown_cell w3 q 4 _) HQ3.out (Or.inr (Or.inr rfl)))).newRow (Nat.le_succ _) _, HZ2.out, fun h0 => ?_, HNO2.out, v2, fl2, row_other (grown_row _ _ _) hrw4 (Ne.symm hkq)⟩
  subst h0
  exact ⟨(HKD2.out rfl).1, (((HKD2.out rfl).2.go HB3.out).fail).by_ HKB4.out (by decide) (grown_row _ _ _)⟩
/-- what the literal leaves -/
def LiG (n0 n1 : Nat) (w : World) (q sz mb kb : Nat) (L : List Ce) (nd : Nd) (e : Ending) (w' : World) : Prop :=
  ∃ (z : Int) (kd : Kd), e = .returned (.int .i64 z) ∧ Below n0 w w' ∧ FrX kb w w' ∧ w'.heap[kb]? = some (.cells (ecK kd).toArray 45 (0, 0)) ∧ z = putE sz L nd ∧ (z = 0 → kd = kidG L nd ∧ KdM n1 w' q sz mb (putLG L nd)) ∧ (z ≠ 0 → kd = kd0) ∧ ∃ v fl, w'.heap[q]? = some (.cells (FlR sz v mb fl z) 130 (0, 0))
set_option maxHeartbeats 8000000 in
theorem litG_any {n0 n1 q sz mb nb kb : Nat} {w : World} {L : List Ce} {nd : Nd} {AI AK AV : Option Addr} {nI cI nK cK nV cV : Nat} (hn0 : n0 ≤ w.heap.size) (h01 : n0 ≤ n1) (hk0 : n0 ≤ kb)
    (hnb : w.heap[nb]? = some (.cells #[.int .u8 nd.kd, .slice AI nI cI, .slice AK nK cK, .slice AV nV cV] 31 (0, 0)))
    (hkb : w.heap[kb]? = some (.cells zKd 45 (0, 0)))
    (hp : Calls Tryz.prog 76 #[.pointer (some ⟨q, 0, none⟩), .agg #[.int .u8 nd.kd, .slice AI nI cI, .slice AK nK cK, .slice AV nV cV]] w (PtG n1 w q sz mb L nd)) :
    Calls Tryz.prog 45 #[.func (.func 76) #[.pointer (some ⟨q, 0, none⟩)] #[], .pointer (some ⟨nb, 0, none⟩), .pointer (some ⟨kb, 0, none⟩)] w (LiG n0 n1 w q sz mb kb L nd) := by
  have HP := Lib.hid hp
  have HKB := Lib.hid hkb
  have HNB := Lib.hid hnb
  have n0' : w.cell? ⟨nb, 0, none⟩ = some (.int .u8 nd.kd) := cell_of_row _ _ 0 _ _ _ hnb
  have n1 : w.cell? ⟨nb, 1, none⟩ = some (.slice AI nI cI) := cell_of_row _ _ 1 _ _ _ hnb
  have n2 : w.cell? ⟨nb, 2, none⟩ = some (.slice AK nK cK) := cell_of_row _ _ 2 _ _ _ hnb
  have n3 : w.cell? ⟨nb, 3, none⟩ = some (.slice AV nV cV) := cell_of_row _ _ 3 _ _ _ hnb
  clear hp hkb hnb
  go_enter Tryz.func45, Tryz.ntmps45
  go_wp2_with fail
  refine (HP.out).mono ?_
  rintro e w2 ⟨z, y, rfl, hb2, hfr2, hz2, hkd2, hno2, v2, fl2, hrow2⟩
  have HZ2 := Lib.hid hz2
  have HNO2 := Lib.hid hno2
  have HRW2 := Lib.hid hrow2
  have HB2 := Lib.hid (hb2.mono h01)
  have HR2 := Lib.hid hfr2
  have HKD2 := Lib.hid hkd2
  have HKB2 := Lib.hid (hfr2.2 _ _ _ _ (by decide) HKB.out)
  have HSZY := Lib.hid (show zKd.size = (ecK y).toArray.size from (show zKd.size = 34 from rfl).trans (ecK_sz y))
  clear hb2 hfr2 hkd2 hz2 hno2 hrow2 HP n0' n1 n2 n3
  go_wp2_with (refine wpList_store_row rfl 45 (.tmp 2) (.tmp 10) rfl kb (ecK y).toArray rfl rfl 45 _ HKB2.out (infoKa y) HSZY.out (all_of_one (ecK_one y)) ?_)
  go_ret
  have hqk : q ≠ kb := fun e => by
    have h1 := HRW2.out
    rw [e, HKB2.out] at h1
    simp only [Option.some.injEq, Obj.cells.injEq] at h1
    exact absurd h1.2.1 (by decide)
  exact ⟨z, y, rfl, HB2.out.trans (below_of_grown (grown_row _ _ _) (Nat.le_trans hn0 HB2.out.size) hk0), ⟨Nat.le_trans HR2.out.1 (grown_row _ _ _).size, fun g cs t f hne ht hg => row_other (grown_row _ _ _) (HR2.out.2 g cs t f ht hg) hne⟩, setRow_at HKB2.out, HZ2.out, fun h0 => ⟨(HKD2.out h0).1, (HKD2.out h0).2.by_ HKB2.out (by decide) (grown_row _ _ _)⟩, HNO2.out, v2, fl2, row_other (grown_row _ _ _) HRW2.out hqk⟩
end Go.Proofs.YtlpejbbmemhloaaGreatDoor.Hp
/- Contract of package heap's Fill with the literal of Put, for every heap and every node. -/
namespace Go.Proofs.YtlpejbbmemhloaaGreatDoor.Hp
set_option linter.unusedVariables false
set_option linter.unusedSimpArgs false
set_option maxRecDepth 100000
open Go.ChangeShapes Go.WideShapes Go.ChangeAt Go.RowKit Go.WideMaps Go.Maps
open Ar Nd
open BigFrame
open Pk (u8s u8s_length)
open Rg
/-- what comes of a put -/
def PuR (sz : Nat) (L : List Ce) (nd : Nd) (z : Int) (sz' : Nat) (L' : List Ce) (kd : Kd) : Prop :=
  (¬ okH sz L ∧ z = 7 ∧ sz' = 0 ∧ L' = [] ∧ kd = kd0) ∨ (okH sz L ∧ sz' = sz ∧ z = putE sz L nd ∧ ((z = 0 ∧ L' = putLG L nd ∧ kd = kidG L nd) ∨ (z ≠ 0 ∧ L' = L ∧ kd = kd0)))
def FiG (w0 w : World) (kb sz : Nat) (L : List Ce) (nd : Nd) (e : Ending) (w' : World) : Prop :=
  ∃ (sz' : Nat) (A : Option Addr) (n c : Nat) (z : Int) (L' : List Ce) (kd : Kd), e = .returned (.tuple #[.agg #[.int .u32 sz', .slice A n c], .int .i64 z]) ∧ MkC w0 w' (.slice A n c) L' ∧ FrX kb w w' ∧ w'.heap[kb]? = some (.cells (ecK kd).toArray 45 (0, 0)) ∧ PuR sz L nd z sz' L' kd
theorem FrX.of_fr {k : Nat} {w w' : World} (h : Fr w w') : FrX k w w' := ⟨h.1, fun g cs t f _ ht hg => h.2 g cs t f ht hg⟩
theorem FrX.go {k q : Nat} {w w1 w2 : World} (h : FrX k w w1) (hs : w1.heap.size ≤ w2.heap.size) (hq : w.heap.size ≤ q) (hb : ∀ g, g < w1.heap.size → g ≠ q → w2.heap[g]? = w1.heap[g]?) : FrX k w w2 :=
  ⟨Nat.le_trans h.1 hs, fun g cs t f hne ht hg => by
    have h1 := h.2 g cs t f hne ht hg
    rw [hb g (row_lt h1) (by have := row_lt hg; omega)]
    exact h1⟩
set_option maxHeartbeats 8000000 in
theorem fillG_any {tK tS : TypeId} {nb kb : Nat} {w0 w : World} (hk : Kc tK tS w0.heap.size w) (hb0 : Below w0.heap.size w0 w) (hk0 : w0.heap.size ≤ kb) (hkb : w.heap[kb]? = some (.cells zKd 45 (0, 0)))
    {sz cap n : Nat} {L : List Ce} {A : Option Addr} (hin0 : HIn w0 A n L)
    (nd : Nd) (hw : Wd nd) (cs : Array Value) (hN : NdAt w cs nd) (hnb : w.heap[nb]? = some (.cells cs 31 (0, 0))) :
    Calls Tryz.prog 44 #[.agg #[.int .u32 sz, .slice A n cap], .func (.func 45) #[] #[.pointer (some ⟨nb, 0, none⟩), .pointer (some ⟨kb, 0, none⟩)]] w (FiG w0 w kb sz L nd) := by
  have hn0 : w0.heap.size ≤ w.heap.size := hb0.size
  have hin := hin0.go hb0
  by_cases hok : okH sz L
  case neg =>
    have HTK := Lib.hid (fun W (hb : Below w.heap.size w W) => tk_at (hk.mono hn0) hin sz cap W hb)
    obtain ⟨R1, R2, S0, Z0⟩ := two_new w #[.int .u32 sz, .slice A n cap] #[.int .u32 0, .slice none 0 0] 25 25
    have HR2 := Lib.hid R2
    have HS := Lib.hid S0
    have HNO := Lib.hid hok
    have HKB := Lib.hid hkb
    have HB0 := Lib.hid hb0
    have HKL := Lib.hid (row_lt hkb)
    clear R1 R2 S0 Z0 hk hok hin hkb hnb hb0 hin0 hN hw
    go_enter Tryz.func44, Tryz.ntmps44
    go_wp2_with fail
    refine (HTK.out _ HS.out).mono ?_
    rintro e w2 ⟨hb2, ⟨hh, _⟩ | ⟨_, rfl⟩⟩
    · exact absurd hh HNO.out
    have hal : Below w2.heap.size w2 (w2.alloc (.cells #[.int .u32 0, .slice none 0 0] 68)) := (Below.refl _ _).alloc (Nat.le_refl _) _
    have HB2 := Lib.hid (HS.out.trans (hb2.mono HS.out.size))
    have HB4 := Lib.hid (HB2.out.trans (hal.mono HB2.out.size))
    have hr2 := (hb2.block _ (row_lt HR2.out)).trans HR2.out
    have HR4 := Lib.hid ((hal.block _ (row_lt hr2)).trans hr2)
    clear hb2 hal hr2
    have k0 : (w2.alloc (.cells #[.int .u32 0, .slice none 0 0] 68)).cell? ⟨w.heap.size + 1, 0, none⟩ = some (.int .u32 0) := cell_of_row _ _ 0 _ _ _ HR4.out
    have k1 : (w2.alloc (.cells #[.int .u32 0, .slice none 0 0] 68)).cell? ⟨w.heap.size + 1, 1, none⟩ = some (.slice none 0 0) := cell_of_row _ _ 1 _ _ _ HR4.out
    have f0 := frozen_of_row (w2.alloc (.cells #[.int .u32 0, .slice none 0 0] 68)) (w.heap.size + 1) 0 _ _ HR4.out
    have f1 := frozen_of_row (w2.alloc (.cells #[.int .u32 0, .slice none 0 0] 68)) (w.heap.size + 1) 1 _ _ HR4.out
    have l0 := row_lt HR4.out
    go_wp2_with fail
    have Q1 := row_set (cs := [.int .u32 0, .slice none 0 0]) (i := 0) (u := .int .u32 0) HR4.out
    have Q2 := row_set (cs := [.int .u32 0, .slice none 0 0]) (i := 1) (u := .slice none 0 0) Q1
    refine bodyPost_ret (v := .tuple #[.agg #[.int .u32 0, .slice none 0 0], .int .i64 7]) (results_row2 rfl _ _ (w.heap.size + 1) 25 #[.int .u32 0, .slice none 0 0] (0, 0) _ rfl Q2 Tryz.underlying25 rfl (by kernel_rfl) _ rfl) rfl ?_
    have hgg := grown_trans (grown_cell (w2.alloc (.cells #[.int .u32 0, .slice none 0 0] 68)) (w.heap.size + 1) 0 (.int .u32 0)) (grown_cell _ (w.heap.size + 1) 1 (.slice none 0 0))
    have hx := HB4.out.size
    exact ⟨0, none, 0, 0, 7, [], kd0, rfl, MkC.two (Mk.nil (HB0.out.trans (HB4.out.mono hn0))) HR4.out (by omega), (FrX.of_fr (Fr.of_below HB4.out)).go (q := w.heap.size + 1) hgg.size (by omega) (fun g hg hne => hgg.block g hg (fun e => hne (Option.some.inj e))), row_other hgg ((HB4.out.block _ HKL.out).trans HKB.out) (by have := HKL.out; omega), .inl ⟨HNO.out, rfl, rfl, rfl, rfl⟩⟩
  have HPUT := Lib.hid (fun (W : World) (n1 q b m : Nat) (D : DataW Unit) (AP : Option Addr) (nP cP : Nat) (P : List Nat) (s : Nat → Ob) (h1 : Below w.heap.size w W) (hn1 : w.heap.size ≤ n1) (hn2 : n1 ≤ W.heap.size) (hq0 : n1 ≤ q) (hq : W.heap[q]? = some (.cells (FlR sz (.slice AP nP cP) b 0 0) 130 (0, 0))) (htk : Tk n1 W (.slice AP nP cP) P s L) (hmb : n1 ≤ b) (hM : OwM W b m D) (hm : m ≤ 65536) (hMp : MpI D L) => putG_any ((hk.below (h1.mono hn0)).mono (Nat.le_trans hn0 hn1)) hn2 hq0 hq htk hok.hi hmb hM hm hMp nd hw cs (hN.below h1))
  obtain ⟨AI, nI, cI, AK, nK, cK, AV, nV, cV, rfl, hrest⟩ := hN
  clear hrest
  have HKB := Lib.hid hkb
  have HNB := Lib.hid hnb
  have HB0 := Lib.hid hb0
  have hle : n ≤ 65536 := by
    rw [hin.len]
    exact hok.cs.len hok.hi
  have hcd : ∀ c ∈ L, c.num < 4294967296 ∧ c.d.size ≤ 512 := fun c hc => by
    obtain ⟨j, hj⟩ := List.getElem?_of_mem hc
    have h1 := hok.cs j c (List.getElem?_eq_some_iff.1 hj).1 hj
    have h2 := hok.hi
    exact ⟨by omega, isN_size h1.2.2.1⟩
  have HTK := Lib.hid (fun W (hb : Below w.heap.size w W) => tk_at (hk.mono hn0) hin sz cap W hb)
  have HFO := Lib.hid (fun W (hb : Below w.heap.size w W) => firstOfEach_any (w := W) L A n cap hin.len hle (hin.go hb).ls hcd)
  obtain ⟨R1, R2, S0, Z0⟩ := two_new w #[.int .u32 sz, .slice A n cap] #[.int .u32 0, .slice none 0 0] 25 25
  have HR1 := Lib.hid R1
  have HR2 := Lib.hid R2
  have HS := Lib.hid S0
  have HOK := Lib.hid hok
  have HIN0 := Lib.hid hin0
  clear R1 R2 S0 Z0 hk hok hin hkb hnb hle hcd hb0 hin0 hw
  go_enter Tryz.func44, Tryz.ntmps44
  go_upto_region 4 with (go_at_call 33; refine (HTK.out _ HS.out).mono ?_; rintro e w2 ⟨hb2, ⟨_, A2, n2, c2, P, s, rfl, htk⟩ | ⟨h, _⟩⟩; case inr => exact absurd HOK.out h)
  have hb24 : Below w2.heap.size w2 (w2.alloc (.cells #[.int .u32 sz, .slice A2 n2 c2] 68)) := (Below.refl _ _).alloc (Nat.le_refl _) _
  have HRA4 := Lib.hid (heap_alloc_new w2 (.cells #[.int .u32 sz, .slice A2 n2 c2] 68))
  generalize (w.alloc (.cells #[.int .u32 sz, .slice A n cap] 25)).alloc (.cells #[.int .u32 0, .slice none 0 0] 25) = W1 at *
  have HTK4 := Lib.hid (htk.go hb24)
  have HRH2 := (hb2.block _ (row_lt HR1.out)).trans HR1.out
  have HRZ2 := (hb2.block _ (row_lt HR2.out)).trans HR2.out
  have HRH4 := Lib.hid ((hb24.block _ (row_lt HRH2)).trans HRH2)
  have HRZ4 := Lib.hid ((hb24.block _ (row_lt HRZ2)).trans HRZ2)
  have HB4 := Lib.hid (hb2.trans (hb24.mono hb2.size))
  have HGA := Lib.hid (show W1.heap.size ≤ w2.heap.size from hb2.size)
  generalize w2.alloc _ = W4 at *
  generalize w2.heap.size = ga at *
  clear hb2 htk hb24 HRH2 HRZ2 HTK HR1 HR2
  go_cut [8] from 9 to 37 (fun s8 wx => Hid (FiReg sz (.slice A2 n2 c2) L W4 s8 wx))
  case first =>
    refine wp_region_T (fun w' : World => Below W4.heap.size W4 w') 6 (by kernel_rfl) (by kernel_rfl) ?_
    have hS : Below W4.heap.size W4 W4.drew := (Below.refl _ _).drew
    refine take_T 0 18 (.agg #[.int .u32 sz, .slice A2 n2 c2]) rfl (by rfl) (by kernel_rfl) (by decide) (by kernel_rfl) (by kernel_rfl) (by kernel_rfl) (fun _ _ _ h => h) (Or.inl ⟨by rfl, fun w' hSw => by have r := (hSw.block _ (row_lt HRA4.out)).trans HRA4.out; have r0 := cell_of_row _ _ 0 _ _ _ r; have r1 := cell_of_row _ _ 1 _ _ _ r; simp only [List.getElem?_toArray, List.getElem?_cons_zero, List.getElem?_cons_succ] at r0 r1; go_simp⟩) hS ?_
    simp only [List.setIfInBounds_toArray, List.set_cons_zero, List.set_cons_succ]
    refine take_T 1 19 (.pointer (some ⟨w.heap.size, 1, none⟩)) rfl (by rfl) (by kernel_rfl) (by decide) (by kernel_rfl) (by kernel_rfl) (by kernel_rfl) (fun _ _ _ h => h) (Or.inl ⟨by rfl, fun w' hSw => by go_simp⟩) hS ?_
    simp only [List.setIfInBounds_toArray, List.set_cons_zero, List.set_cons_succ]
    refine take_T 2 20 (.slice A n cap) rfl (by rfl) (by kernel_rfl) (by decide) (by kernel_rfl) (by kernel_rfl) (by kernel_rfl) (fun _ _ _ h => h) (Or.inl ⟨by rfl, fun w' hSw => by have r := (hSw.block _ (row_lt HRH4.out)).trans HRH4.out; have r1 := cell_of_row _ _ 1 _ _ _ r; simp only [List.getElem?_toArray, List.getElem?_cons_zero, List.getElem?_cons_succ] at r1; go_simp⟩) hS ?_
    simp only [List.setIfInBounds_toArray, List.set_cons_zero, List.set_cons_succ]
    have hbv : Below w.heap.size w W4.drew := (HS.out.trans (HB4.out.mono HS.out.size)).drew
    generalize W4.drew = v0 at *
    refine two_T 3 5 rfl rfl (by kernel_rfl) (by decide) (by decide) (by rfl) (by rfl) (fun K hK => ?_) (fun K hK => ?_)
    · go_wp2_with fail
      refine (HFO.out _ hbv).mono ?_
      rintro e' v1 ⟨b, m, D, rfl, hbz, hm, hM, hMp, hb1⟩
      have hSZ : W4.heap.size ≤ v0.heap.size := hS.size
      have hS2 : Below W4.heap.size W4 v1 := hS.trans (hb1.mono hS.size)
      refine hK.out _ _ hS2 ?_
      clear hK K
      try simp only [Act.put, List.setIfInBounds_toArray, List.set_cons_zero, List.set_cons_succ]
      clear hS
      have hS := hS2
      clear hS2
      refine take_T 4 22 (.agg #[.int .u32 sz, .slice A2 n2 c2, .map (some b), .int .i64 0, .int .i64 0]) rfl (by rfl) (by kernel_rfl) (by decide) (by kernel_rfl) (by kernel_rfl) (by kernel_rfl) (fun _ _ _ h => h) (Or.inl ⟨by rfl, fun w' hSw => by go_simp⟩) hS ?_
      simp only [List.setIfInBounds_toArray, List.set_cons_zero, List.set_cons_succ]
      refine only_T 5 rfl (by kernel_rfl) (by decide) (by rfl) (fun K hK => ?_)
      have hb : Below v1.heap.size v1 (v1.alloc (.cells #[.int .u32 0, .slice none 0 0, .map none, .int .i64 0, .int .i64 0] 130)) := (Below.refl _ _).alloc (Nat.le_refl _) _
      have HA := Lib.hid (heap_alloc_new v1 (.cells #[.int .u32 0, .slice none 0 0, .map none, .int .i64 0, .int .i64 0] 130))
      have HS3 := Lib.hid (hS.trans (hb.mono hS.size))
      have HGZ := Lib.hid (show W4.heap.size ≤ v1.heap.size from hS.size)
      have HM3 := Lib.hid (hM.go hb)
      have HBZ := Lib.hid (show W4.heap.size ≤ b from Nat.le_trans hSZ hbz)
      have hS2 : Below W4.heap.size W4 (v1.alloc (.cells #[.int .u32 0, .slice none 0 0, .map none, .int .i64 0, .int .i64 0] 130)) := HS3.out
      go_simp
      clear hb hM hb1 hbz
      generalize v1.alloc _ = v2 at *
      generalize v1.heap.size = g at *
      refine hK.out _ _ hS2 ?_
      clear hK K
      try simp only [Act.put, List.setIfInBounds_toArray, List.set_cons_zero, List.set_cons_succ]
      clear hS
      have hS := hS2
      clear hS2
      refine done_T (by kernel_rfl) ?_
      simp only [List.drop_succ_cons, List.drop_zero]
      go_wp2_with (refine wpList_store_row rfl 130 (.tmp 8) (.tmp 22) rfl g (FlR sz (.slice A2 n2 c2) b 0 0) rfl rfl 130 _ HA.out (by kernel_rfl) rfl (all_of_one (by intro x hx; simp at hx; rcases hx with rfl | rfl | rfl | rfl | rfl <;> rfl)) ?_)
      go_meet
      exact ⟨g, b, m, D, rfl, setRow_at HA.out, HM3.out.by_ (grown_row _ _ _) (fun g' e => by cases e; exact ⟨_, _, _, HA.out⟩), hMp, HBZ.out, HGZ.out, hm, hS.trans (below_of_grown (grown_row _ _ _) hS.size HGZ.out)⟩
    · have hb : Below v0.heap.size v0 (v0.alloc (.cells #[.int .u32 0, .slice none 0 0, .map none, .int .i64 0, .int .i64 0] 130)) := (Below.refl _ _).alloc (Nat.le_refl _) _
      have HA0 := Lib.hid (heap_alloc_new v0 (.cells #[.int .u32 0, .slice none 0 0, .map none, .int .i64 0, .int .i64 0] 130))
      have hbv2 := hbv.trans (hb.mono hbv.size)
      have HGZ := Lib.hid (show W4.heap.size ≤ v0.heap.size from hS.size)
      have hS2 : Below W4.heap.size W4 (v0.alloc (.cells #[.int .u32 0, .slice none 0 0, .map none, .int .i64 0, .int .i64 0] 130)) := hS.trans (hb.mono hS.size)
      have HL := Lib.hid (row_lt HA0.out)
      go_simp
      clear hb
      generalize v0.alloc _ = v1 at *
      generalize v0.heap.size = g at *
      refine hK.out _ _ hS2 ?_
      clear hK K
      try simp only [Act.put, List.setIfInBounds_toArray, List.set_cons_zero, List.set_cons_succ]
      clear hS
      have hS := hS2
      clear hS2
      refine only_T 3 rfl (by kernel_rfl) (by decide) (by rfl) (fun K hK => ?_)
      go_wp2_with fail
      refine (HFO.out _ hbv2).mono ?_
      rintro e' v2 ⟨b, m, D, rfl, hbz, hm, hM, hMp, hb1⟩
      have hS2 : Below W4.heap.size W4 v2 := hS.trans (hb1.mono hS.size)
      have HA := Lib.hid ((hb1.block _ HL.out).trans HA0.out)
      have HM3 := Lib.hid hM
      have HBZ := Lib.hid (show W4.heap.size ≤ b from Nat.le_trans hS.size hbz)
      refine hK.out _ _ hS2 ?_
      clear hK K hM hb1 hbz HA0 HL
      try simp only [Act.put, List.setIfInBounds_toArray, List.set_cons_zero, List.set_cons_succ]
      clear hS
      have hS := hS2
      clear hS2
      refine take_T 4 22 (.agg #[.int .u32 sz, .slice A2 n2 c2, .map (some b), .int .i64 0, .int .i64 0]) rfl (by rfl) (by kernel_rfl) (by decide) (by kernel_rfl) (by kernel_rfl) (by kernel_rfl) (fun _ _ _ h => h) (Or.inl ⟨by rfl, fun w' hSw => by go_simp⟩) hS ?_
      simp only [List.setIfInBounds_toArray, List.set_cons_zero, List.set_cons_succ]
      refine done_T (by kernel_rfl) ?_
      simp only [List.drop_succ_cons, List.drop_zero]
      go_wp2_with (refine wpList_store_row rfl 130 (.tmp 8) (.tmp 22) rfl g (FlR sz (.slice A2 n2 c2) b 0 0) rfl rfl 130 _ HA.out (by kernel_rfl) rfl (all_of_one (by intro x hx; simp at hx; rcases hx with rfl | rfl | rfl | rfl | rfl <;> rfl)) ?_)
      go_meet
      exact ⟨g, b, m, D, rfl, setRow_at HA.out, HM3.out.by_ (grown_row _ _ _) (fun g' e => by cases e; exact ⟨_, _, _, HA.out⟩), hMp, HBZ.out, HGZ.out, hm, hS.trans (below_of_grown (grown_row _ _ _) hS.size HGZ.out)⟩
  case rest =>
    obtain ⟨g, b, m, D, rfl, hrg, hM, hMp, hbz, hgz, hm, hbw⟩ := Hid.out hcut
    have hz1 : w.heap.size ≤ W1.heap.size := HS.out.size
    have hz4 : W1.heap.size ≤ W4.heap.size := HB4.out.size
    have hB : Below w.heap.size w wc := (HS.out.trans (HB4.out.mono hz1)).trans (hbw.mono (Nat.le_trans hz1 hz4))
    have HB := Lib.hid hB
    have hz5 : W4.heap.size ≤ wc.heap.size := hbw.size
    have hlk : kb < w.heap.size := row_lt HKB.out
    have HPU := Lib.hid (HPUT.out wc W1.heap.size g b m D A2 n2 c2 P s hB hz1 (Nat.le_trans hz4 hz5) (Nat.le_trans hz4 hgz) hrg (HTK4.out.go hbw) (Nat.le_trans hz4 hbz) hM hm hMp)
    have HLIT := Lib.hid (litG_any (Nat.le_trans hn0 hB.size) (Nat.le_trans hn0 hz1) hk0 ((hB.block _ (row_lt HNB.out)).trans HNB.out) ((hB.block _ hlk).trans HKB.out) HPU.out)
    have HRZ5 := Lib.hid ((hbw.block _ (row_lt HRZ4.out)).trans HRZ4.out)
    have HRH5 := Lib.hid ((hbw.block _ (row_lt HRH4.out)).trans HRH4.out)
    have HGL := Lib.hid (show w.heap.size ≤ g from Nat.le_trans hz1 (Nat.le_trans hz4 hgz))
    clear hcut hrg hM hMp hbz hgz hm hbw hB HPU HPUT HFO HTK4 HRH4 HRZ4 HB4 HRA4 hz5 hz4
    go_wp2_with fail
    refine HLIT.out.mono ?_
    rintro e w5 ⟨z, y, rfl, hb5, hfx5, hkb5, hzE, hkd5, hno5, v5, fl5, hrow5⟩
    have HB5 := Lib.hid hb5
    have HX5 := Lib.hid hfx5
    have HKB5 := Lib.hid hkb5
    have HZE := Lib.hid hzE
    have HKD := Lib.hid hkd5
    have HNO := Lib.hid hno5
    have HRZ5' := Lib.hid (hfx5.2 _ _ _ _ (by omega) (by decide) HRZ5.out)
    have HRH5' := Lib.hid (hfx5.2 _ _ _ _ (by omega) (by decide) HRH5.out)
    have hsw := HB.out.size
    have HB05 := Lib.hid (show Below w0.heap.size w0 w5 from (HB0.out.trans (HB.out.mono hn0)).trans hb5)
    have c4 : w5.cell? ⟨g, 4, none⟩ = some (.int .i64 z) := cell_of_row _ _ 4 _ _ _ hrow5
    have lg := row_lt hrow5
    by_cases hz : z = 0
    case neg =>
      have q0 : ((z : Int) != 0) = true := by rw [bne_iff_ne]; exact hz
      have HZN := Lib.hid hz
      have HCP := Lib.hid (copied_any (w := w5) sz cap (HIN0.out.go HB05.out))
      have h0 : w5.cell? ⟨w.heap.size, 0, none⟩ = some (.int .u32 sz) := cell_of_row _ _ 0 _ _ _ HRH5'.out
      have h1 : w5.cell? ⟨w.heap.size, 1, none⟩ = some (.slice A n cap) := cell_of_row _ _ 1 _ _ _ HRH5'.out
      have l1 := row_lt HRH5'.out
      clear hb5 hfx5 hkb5 hzE hkd5 hno5 hrow5 HRZ5 HLIT hz
      go_wp2_with fail
      refine HCP.out.mono ?_
      rintro e w6 ⟨v6, rfl, A6, n6, c6, rfl, hmk⟩
      have HMK := Lib.hid hmk
      have HRZ6 := Lib.hid ((hmk.2.block _ (row_lt HRZ5'.out)).trans HRZ5'.out)
      have k0 : w6.cell? ⟨w.heap.size + 1, 0, none⟩ = some (.int .u32 0) := cell_of_row _ _ 0 _ _ _ HRZ6.out
      have k1 : w6.cell? ⟨w.heap.size + 1, 1, none⟩ = some (.slice none 0 0) := cell_of_row _ _ 1 _ _ _ HRZ6.out
      have f0 := frozen_of_row w6 (w.heap.size + 1) 0 _ _ HRZ6.out
      have f1 := frozen_of_row w6 (w.heap.size + 1) 1 _ _ HRZ6.out
      have l0 := row_lt HRZ6.out
      clear hmk HCP h0 h1 l1 c4 lg
      go_wp2_with fail
      have Q1 := row_set (cs := [.int .u32 0, .slice none 0 0]) (i := 0) (u := .int .u32 sz) HRZ6.out
      have Q2 := row_set (cs := [.int .u32 sz, .slice none 0 0]) (i := 1) (u := .slice A6 n6 c6) Q1
      refine bodyPost_ret (v := .tuple #[.agg #[.int .u32 sz, .slice A6 n6 c6], .int .i64 z]) (results_row2 rfl _ _ (w.heap.size + 1) 25 #[.int .u32 sz, .slice A6 n6 c6] (0, 0) _ rfl Q2 Tryz.underlying25 rfl (by kernel_rfl) _ rfl) rfl ?_
      have hgg := grown_trans (grown_cell w6 (w.heap.size + 1) 0 (.int .u32 sz)) (grown_cell _ (w.heap.size + 1) 1 (.slice A6 n6 c6))
      have hx6 : FrX kb w w6 := ⟨Nat.le_trans hsw (Nat.le_trans HX5.out.1 HMK.out.2.size), fun g' cs' t' f' hne ht hg' => by
        have h1 := HX5.out.2 g' cs' t' f' hne ht ((HB.out.block _ (row_lt hg')).trans hg')
        exact (HMK.out.2.block _ (row_lt h1)).trans h1⟩
      exact ⟨sz, A6, n6, c6, z, L, y, rfl, MkC.two (HMK.out.since HB05.out) HRZ6.out (by omega), hx6.go (q := w.heap.size + 1) hgg.size (by omega) (fun g hg hne => hgg.block g hg (fun e => hne (Option.some.inj e))), row_other hgg ((HMK.out.2.block _ (row_lt HKB5.out)).trans HKB5.out) (by omega), .inr ⟨HOK.out, rfl, HZE.out, .inr ⟨HZN.out, rfl, HNO.out HZN.out⟩⟩⟩
    subst hz
    obtain ⟨hyk, A', n', c', fl, P', s', h1, h2, h3, h4, h5⟩ := HKD.out rfl
    have HYK := Lib.hid hyk
    have HPL := Lib.hid (plain_any (q := g) (sz := sz) ⟨_, _, h1, rfl, rfl⟩ h2 h3 h4)
    rw [h5] at HPL
    clear hb5 hfx5 hkb5 h1 h2 h3 h4 h5 HRZ5 HLIT hzE hkd5 hno5 hrow5 hyk
    go_wp2_with fail
    refine HPL.out.mono ?_
    rintro e w6 ⟨v, rfl, A6, n6, c6, rfl, hmk⟩
    have HMK := Lib.hid hmk
    have HRZ6 := Lib.hid ((hmk.2.block _ (row_lt HRZ5'.out)).trans HRZ5'.out)
    have k0 : w6.cell? ⟨w.heap.size + 1, 0, none⟩ = some (.int .u32 0) := cell_of_row _ _ 0 _ _ _ HRZ6.out
    have k1 : w6.cell? ⟨w.heap.size + 1, 1, none⟩ = some (.slice none 0 0) := cell_of_row _ _ 1 _ _ _ HRZ6.out
    have f0 := frozen_of_row w6 (w.heap.size + 1) 0 _ _ HRZ6.out
    have f1 := frozen_of_row w6 (w.heap.size + 1) 1 _ _ HRZ6.out
    have l0 := row_lt HRZ6.out
    clear hmk HPL c4 lg
    go_wp2_with fail
    have Q1 := row_set (cs := [.int .u32 0, .slice none 0 0]) (i := 0) (u := .int .u32 sz) HRZ6.out
    have Q2 := row_set (cs := [.int .u32 sz, .slice none 0 0]) (i := 1) (u := .slice A6 n6 c6) Q1
    refine bodyPost_ret (v := .tuple #[.agg #[.int .u32 sz, .slice A6 n6 c6], .int .i64 0]) (results_row2 rfl _ _ (w.heap.size + 1) 25 #[.int .u32 sz, .slice A6 n6 c6] (0, 0) _ rfl Q2 Tryz.underlying25 rfl (by kernel_rfl) _ rfl) rfl ?_
    have hgg := grown_trans (grown_cell w6 (w.heap.size + 1) 0 (.int .u32 sz)) (grown_cell _ (w.heap.size + 1) 1 (.slice A6 n6 c6))
    have hx6 : FrX kb w w6 := ⟨Nat.le_trans hsw (Nat.le_trans HX5.out.1 HMK.out.2.size), fun g' cs' t' f' hne ht hg' => by
      have h1 := HX5.out.2 g' cs' t' f' hne ht ((HB.out.block _ (row_lt hg')).trans hg')
      exact (HMK.out.2.block _ (row_lt h1)).trans h1⟩
    exact ⟨sz, A6, n6, c6, 0, putLG L nd, y, rfl, MkC.two (HMK.out.since HB05.out) HRZ6.out (by omega), hx6.go (q := w.heap.size + 1) hgg.size (by omega) (fun g hg hne => hgg.block g hg (fun e => hne (Option.some.inj e))), row_other hgg ((HMK.out.2.block _ (row_lt HKB5.out)).trans HKB5.out) (by omega), .inr ⟨HOK.out, rfl, HZE.out, .inl ⟨rfl, rfl, HYK.out⟩⟩⟩
end Go.Proofs.YtlpejbbmemhloaaGreatDoor.Hp
/- Contract of package heap's Put, for every heap and every node. -/
namespace Go.Proofs.YtlpejbbmemhloaaGreatDoor.Hp
set_option linter.unusedVariables false
set_option linter.unusedSimpArgs false
set_option maxRecDepth 100000
open Go.ChangeShapes Go.WideShapes Go.ChangeAt Go.RowKit Go.WideMaps Go.Maps
open Go.Proofs.YtlpejbbmemhloaaGreatDoor.Rg (take_at only_H)
open Ar Nd
open BigFrame
open Pk (u8s u8s_length)
/-- what Put leaves -/
def PuG (w : World) (sz : Nat) (L : List Ce) (nd : Nd) (e : Ending) (w' : World) : Prop :=
  ∃ (sz' : Nat) (A : Option Addr) (n c : Nat) (z : Int) (L' : List Ce) (kd : Kd), e = .returned (.tuple #[.agg #[.int .u32 sz', .slice A n c], .agg (ecK kd).toArray, .int .i64 z]) ∧ MkC w w' (.slice A n c) L' ∧ PuR sz L nd z sz' L' kd
set_option maxHeartbeats 8000000 in
theorem PutG_any {tK tS : TypeId} {w : World} (hk : Kc tK tS w.heap.size w) {sz cap n : Nat} {L : List Ce} {A : Option Addr} (hin : HIn w A n L)
    (nd : Nd) (hw : Wd nd) (cs : Array Value) (hN : NdAt w cs nd) :
    Calls Tryz.prog 18 #[.agg #[.int .u32 sz, .slice A n cap], .agg cs] w (PuG w sz L nd) := by
  have HFI := Lib.hid (fun (W : World) (hb : Below w.heap.size w W) (nb kb : Nat) (hkb : W.heap[kb]? = some (.cells zKd 45 (0, 0))) (hnb : W.heap[nb]? = some (.cells cs 31 (0, 0))) (hk0 : w.heap.size ≤ kb) => fillG_any (sz := sz) (cap := cap) (hk.below hb) hb hk0 hkb hin nd hw cs (hN.below hb) hnb)
  obtain ⟨AI, nI, cI, AK, nK, cK, AV, nV, cV, rfl, hrest⟩ := hN
  clear hrest hin hw hk
  obtain ⟨R1, R2, S2, Z2⟩ := two_new w #[.int .u32 sz, .slice A n cap] #[.int .u8 nd.kd, .slice AI nI cI, .slice AK nK cK, .slice AV nV cV] 25 31
  obtain ⟨R3, R4, S4, Z4⟩ := two_new ((w.alloc (.cells #[.int .u32 sz, .slice A n cap] 25)).alloc (.cells #[.int .u8 nd.kd, .slice AI nI cI, .slice AK nK cK, .slice AV nV cV] 31)) #[.int .u32 0, .slice none 0 0] zKd 25 45
  have R5 := heap_alloc_new ((((w.alloc (.cells #[.int .u32 sz, .slice A n cap] 25)).alloc (.cells #[.int .u8 nd.kd, .slice AI nI cI, .slice AK nK cK, .slice AV nV cV] 31)).alloc (.cells #[.int .u32 0, .slice none 0 0] 25)).alloc (.cells zKd 45)) (.cells zKd 45)
  have S5 : Below ((((w.alloc (.cells #[.int .u32 sz, .slice A n cap] 25)).alloc (.cells #[.int .u8 nd.kd, .slice AI nI cI, .slice AK nK cK, .slice AV nV cV] 31)).alloc (.cells #[.int .u32 0, .slice none 0 0] 25)).alloc (.cells zKd 45)).heap.size ((((w.alloc (.cells #[.int .u32 sz, .slice A n cap] 25)).alloc (.cells #[.int .u8 nd.kd, .slice AI nI cI, .slice AK nK cK, .slice AV nV cV] 31)).alloc (.cells #[.int .u32 0, .slice none 0 0] 25)).alloc (.cells zKd 45)) (((((w.alloc (.cells #[.int .u32 sz, .slice A n cap] 25)).alloc (.cells #[.int .u8 nd.kd, .slice AI nI cI, .slice AK nK cK, .slice AV nV cV] 31)).alloc (.cells #[.int .u32 0, .slice none 0 0] 25)).alloc (.cells zKd 45)).alloc (.cells zKd 45)) := (Below.refl _ _).alloc (Nat.le_refl _) _
  rw [Z4, Z2] at R5
  rw [Z2] at R3 R4
  have hs2 := S2.size
  have hs4 := S4.size
  have F2 := Lib.hid ((S5.block _ (row_lt ((S4.block _ (row_lt R2)).trans R2))).trans ((S4.block _ (row_lt R2)).trans R2))
  have F3 := Lib.hid ((S5.block _ (row_lt R3)).trans R3)
  have F4 := Lib.hid ((S5.block _ (row_lt R4)).trans R4)
  have F5 := Lib.hid R5
  have HS := Lib.hid ((S2.trans (S4.mono hs2)).trans (S5.mono (Nat.le_trans hs2 hs4)))
  clear R1 R2 S2 Z2 R3 R4 S4 Z4 R5 S5 hs2 hs4
  go_enter Tryz.func18, Tryz.ntmps18
  go_wp2_with fail
  change Calls _ _ _ (((((w.alloc (.cells #[.int .u32 sz, .slice A n cap] 25)).alloc (.cells #[.int .u8 nd.kd, .slice AI nI cI, .slice AK nK cK, .slice AV nV cV] 31)).alloc (.cells #[.int .u32 0, .slice none 0 0] 25)).alloc (.cells zKd 45)).alloc (.cells zKd 45)) _
  generalize (((((w.alloc (.cells #[.int .u32 sz, .slice A n cap] 25)).alloc (.cells #[.int .u8 nd.kd, .slice AI nI cI, .slice AK nK cK, .slice AV nV cV] 31)).alloc (.cells #[.int .u32 0, .slice none 0 0] 25)).alloc (.cells zKd 45)).alloc (.cells zKd 45)) = W1 at *
  refine (HFI.out W1 HS.out _ _ F5.out F2.out (by omega)).mono ?_
  rintro e w2 ⟨sz2, A2, n2, c2, z, L2, y, rfl, hmk, hfx, hkb, hR⟩
  have HRR := Lib.hid hR
  have HMK := Lib.hid hmk
  have HKB := Lib.hid hkb
  have HZ3 := Lib.hid (hfx.2 _ _ _ _ (by omega) (by decide) F3.out)
  have HZ4 := Lib.hid (hfx.2 _ _ _ _ (by omega) (by decide) F4.out)
  clear hmk hfx hkb hR F2 F3 F4 F5 HFI
  go_wp2_with fail
  have hb3 : Below w2.heap.size w2 (w2.alloc (.cells #[.int .u32 sz2, .slice A2 n2 c2] 25)) := (Below.refl _ _).alloc (Nat.le_refl _) _
  have HG := Lib.hid (heap_alloc_new w2 (.cells #[.int .u32 sz2, .slice A2 n2 c2] 25))
  have HMK3 := Lib.hid (HMK.out.go hb3)
  have H43 : Hid ((w2.alloc (.cells #[.int .u32 sz2, .slice A2 n2 c2] 25)).heap[w.heap.size + 1 + 1]? = some (.cells #[.int .u32 0, .slice none 0 0] 25 (0, 0))) := Lib.hid ((hb3.block _ (row_lt HZ3.out)).trans HZ3.out)
  have H53 : Hid ((w2.alloc (.cells #[.int .u32 sz2, .slice A2 n2 c2] 25)).heap[w.heap.size + 1 + 1 + 1]? = some (.cells zKd 45 (0, 0))) := Lib.hid ((hb3.block _ (row_lt HZ4.out)).trans HZ4.out)
  have HK3 : Hid ((w2.alloc (.cells #[.int .u32 sz2, .slice A2 n2 c2] 25)).heap[w.heap.size + 1 + 1 + 1 + 1]? = some (.cells (ecK y).toArray 45 (0, 0))) := Lib.hid ((hb3.block _ (row_lt HKB.out)).trans HKB.out)
  have hgl : w.heap.size + 1 + 1 + 1 + 1 < w2.heap.size := row_lt HKB.out
  generalize (w2.alloc (.cells #[.int .u32 sz2, .slice A2 n2 c2] 25)) = w3 at *
  generalize w2.heap.size = gb at *
  clear hb3 HMK HZ3 HZ4 HKB
  refine wp_region_held_drew (S := fun w' : World => w'.heap[gb]? = some (.cells #[.int .u32 sz2, .slice A2 n2 c2] 25 (0, 0)) ∧ w'.heap[w.heap.size + 1 + 1 + 1 + 1]? = some (.cells (ecK y).toArray 45 (0, 0))) (by kernel_rfl) ⟨HG.out, HK3.out⟩ (fun hHeld => ?_)
  have HM4 := Lib.hid (show MkC w w3.drew (.slice A2 n2 c2) L2 from HMK3.out.go (Below.refl _ _).drew)
  have H44 : Hid (w3.drew.heap[w.heap.size + 1 + 1]? = some (.cells #[.int .u32 0, .slice none 0 0] 25 (0, 0))) := H43
  have H54 : Hid (w3.drew.heap[w.heap.size + 1 + 1 + 1]? = some (.cells zKd 45 (0, 0))) := H53
  have hS : w3.drew.heap[gb]? = some (.cells #[.int .u32 sz2, .slice A2 n2 c2] 25 (0, 0)) ∧ w3.drew.heap[w.heap.size + 1 + 1 + 1 + 1]? = some (.cells (ecK y).toArray 45 (0, 0)) := ⟨HG.out, HK3.out⟩
  clear hHeld HG HK3 H43 H53 HMK3
  generalize w3.drew = w4 at *
  refine take_at 0 16 (.agg #[.int .u32 sz2, .slice A2 n2 c2]) rfl (by rfl) (by kernel_rfl) (by kernel_rfl) (by kernel_rfl) (fun _ _ _ h => h) (Or.inl ⟨by rfl, fun w' hSw => row_runO 25 rfl gb rfl _ _ (0, 0) _ hSw.1 Tryz.underlying25 rfl (by kernel_rfl)⟩) hS ?_
  simp only [List.setIfInBounds_toArray, List.set_cons_zero, List.set_cons_succ]
  refine take_at 1 17 (.agg (ecK y).toArray) rfl (by rfl) (by kernel_rfl) (by kernel_rfl) (by kernel_rfl) (fun _ _ _ h => h) (Or.inl ⟨by rfl, fun w' hSw => row_runO 45 rfl (w.heap.size + 1 + 1 + 1 + 1) rfl _ _ (0, 0) _ hSw.2 Tryz.underlying45 rfl (infoKa y)⟩) hS ?_
  simp only [List.setIfInBounds_toArray, List.set_cons_zero, List.set_cons_succ]
  refine take_at 2 18 (.int .i64 z) rfl (by rfl) (by kernel_rfl) (by kernel_rfl) (by kernel_rfl) (fun _ _ _ h => h) (Or.inl ⟨by rfl, fun w' hSw => by go_simp⟩) hS ?_
  simp only [List.setIfInBounds_toArray, List.set_cons_zero, List.set_cons_succ]
  refine only_H 3 rfl (by kernel_rfl) (by rfl) (fun K hK => ?_)
  have k0 : w4.cell? ⟨w.heap.size + 1 + 1, 0, none⟩ = some (.int .u32 0) := cell_of_row _ _ 0 _ _ _ H44.out
  have k1 : w4.cell? ⟨w.heap.size + 1 + 1, 1, none⟩ = some (.slice none 0 0) := cell_of_row _ _ 1 _ _ _ H44.out
  have f0 := frozen_of_row w4 (w.heap.size + 1 + 1) 0 _ _ H44.out
  have f1 := frozen_of_row w4 (w.heap.size + 1 + 1) 1 _ _ H44.out
  have l0 := row_lt H44.out
  go_wp2_with fail
  have h1 : (w4.setCell ⟨w.heap.size + 1 + 1, 0, none⟩ (.int .u32 sz2)).heap[w.heap.size + 1 + 1]? = some (.cells #[.int .u32 sz2, .slice none 0 0] 25 (0, 0)) := row_set (cs := [.int .u32 0, .slice none 0 0]) (i := 0) (u := .int .u32 sz2) H44.out
  have H45 := Lib.hid (row_set (cs := [.int .u32 sz2, .slice none 0 0]) (i := 1) (u := .slice A2 n2 c2) h1)
  have H55 := Lib.hid (row_cell (q := w.heap.size + 1 + 1) (i := 1) (u := .slice A2 n2 c2) (row_cell (q := w.heap.size + 1 + 1) (i := 0) (u := .int .u32 sz2) H54.out (by omega)) (by omega))
  have hS2 : ((w4.setCell ⟨w.heap.size + 1 + 1, 0, none⟩ (.int .u32 sz2)).setCell ⟨w.heap.size + 1 + 1, 1, none⟩ (.slice A2 n2 c2)).heap[gb]? = some (.cells #[.int .u32 sz2, .slice A2 n2 c2] 25 (0, 0)) ∧ ((w4.setCell ⟨w.heap.size + 1 + 1, 0, none⟩ (.int .u32 sz2)).setCell ⟨w.heap.size + 1 + 1, 1, none⟩ (.slice A2 n2 c2)).heap[w.heap.size + 1 + 1 + 1 + 1]? = some (.cells (ecK y).toArray 45 (0, 0)) := ⟨row_cell (row_cell hS.1 (by omega)) (by omega), row_cell (row_cell hS.2 (by omega)) (by omega)⟩
  have HM5 := Lib.hid ((HM4.out.cell (i := 0) (u := .int .u32 sz2) H44.out (by decide) (by omega)).cell (i := 1) (u := .slice A2 n2 c2) h1 (by decide) (by omega))
  refine hK.out _ _ hS2 ?_
  clear hK K hS k0 k1 f0 f1 l0 h1 H44 H54 HM4
  try simp only [Act.put, List.setIfInBounds_toArray, List.set_cons_zero, List.set_cons_succ]
  have H45 : Hid (((w4.setCell ⟨w.heap.size + 1 + 1, 0, none⟩ (.int .u32 sz2)).setCell ⟨w.heap.size + 1 + 1, 1, none⟩ (.slice A2 n2 c2)).heap[w.heap.size + 1 + 1]? = some (.cells #[.int .u32 sz2, .slice A2 n2 c2] 25 (0, 0))) := H45
  generalize ((w4.setCell ⟨w.heap.size + 1 + 1, 0, none⟩ (.int .u32 sz2)).setCell ⟨w.heap.size + 1 + 1, 1, none⟩ (.slice A2 n2 c2)) = w5 at *
  have HSZY := Lib.hid (show zKd.size = (ecK y).toArray.size from (show zKd.size = 34 from rfl).trans (ecK_sz y))
  refine only_H 4 rfl (by kernel_rfl) (by rfl) (fun K hK => ?_)
  refine wp_store_row 45 (.tmp 5) (.tmp 17) rfl (w.heap.size + 1 + 1 + 1) (ecK y).toArray rfl rfl 45 _ H55.out (infoKa y) HSZY.out (all_of_one (ecK_one y)) ?_
  have hS3 : (w5.setRow (w.heap.size + 1 + 1 + 1) (ecK y).toArray).heap[gb]? = some (.cells #[.int .u32 sz2, .slice A2 n2 c2] 25 (0, 0)) ∧ (w5.setRow (w.heap.size + 1 + 1 + 1) (ecK y).toArray).heap[w.heap.size + 1 + 1 + 1 + 1]? = some (.cells (ecK y).toArray 45 (0, 0)) := ⟨row_other (grown_row _ _ _) hS2.1 (by omega), row_other (grown_row _ _ _) hS2.2 (by omega)⟩
  refine hK.out _ _ hS3 ?_
  clear hK K
  try simp only [Act.put, List.setIfInBounds_toArray, List.set_cons_zero, List.set_cons_succ]
  refine take_at 5 6 (.int .i64 z) rfl (by rfl) (by kernel_rfl) (by kernel_rfl) (by kernel_rfl) (fun _ _ _ h => h) (Or.inl ⟨by rfl, fun w' hSw => by go_simp⟩) hS3 ?_
  simp only [List.setIfInBounds_toArray, List.set_cons_zero, List.set_cons_succ]
  refine wpAnyH_done (by kernel_rfl) ?_ _
  have HR := Lib.hid (row_other (grown_row w5 (w.heap.size + 1 + 1 + 1) (ecK y).toArray) H45.out (by omega))
  have HM6 := Lib.hid (HM5.out.grownQ (grown_row w5 (w.heap.size + 1 + 1 + 1) (ecK y).toArray) (by omega) (Mk.off HM5.out H55.out (by decide)))
  clear hS3 hS2 HM5 H45
  go_wp2_with fail
  refine bodyPost_ret (v := .tuple #[.agg #[.int .u32 sz2, .slice A2 n2 c2], .agg (ecK y).toArray, .int .i64 z]) (results_row3 rfl _ _ (w.heap.size + 1 + 1) (w.heap.size + 1 + 1 + 1) 25 45 #[.int .u32 sz2, .slice A2 n2 c2] (ecK y).toArray (0, 0) (0, 0) _ _ rfl HR.out Tryz.underlying25 rfl (by kernel_rfl) rfl (setRow_at H55.out) Tryz.underlying45 rfl (infoKa y) _ rfl) rfl ?_
  exact ⟨sz2, A2, n2, c2, z, L2, y, rfl, HM6.out, HRR.out⟩
end Go.Proofs.YtlpejbbmemhloaaGreatDoor.Hp
/- Contract of the document's Same (heaps), where both are one. -/
namespace Go.Proofs.YtlpejbbmemhloaaGreatDoor.Hp
set_option linter.unusedVariables false
set_option linter.unusedSimpArgs false
set_option maxRecDepth 100000
open Go.ChangeShapes Go.WideShapes Go.ChangeAt Go.RowKit
open Ar Nd
open BigFrame
open It (below_drewN)
end Go.Proofs.YtlpejbbmemhloaaGreatDoor.Hp
/- Mathematics of what is left of a right heap when some of its cells were let go, as lists. -/
namespace Go.Proofs.YtlpejbbmemhloaaGreatDoor.Hp
set_option linter.unusedVariables false
set_option linter.unusedSimpArgs false
set_option maxRecDepth 100000
open Ar Nd
theorem okTo.of {sz : Nat} {L : List Ce} (h1 : ∀ c ∈ L, 2 ≤ c.num ∧ c.num < sz ∧ isN c.d = true) (h2 : L.Pairwise fun a b => a.num < b.num) : okTo sz L L.length := fun j c hj hc => by
  obtain ⟨a, b, d⟩ := h1 c (List.mem_of_getElem? hc)
  refine ⟨a, b, d, fun x h0 hx => ?_⟩
  rw [List.pairwise_iff_getElem] at h2
  obtain ⟨l1, rfl⟩ := List.getElem?_eq_some_iff.1 hc
  obtain ⟨l2, rfl⟩ := List.getElem?_eq_some_iff.1 hx
  exact h2 _ _ l2 l1 (by omega)
theorem okTo.mem {sz : Nat} {L : List Ce} (h : okTo sz L L.length) : ∀ c ∈ L, 2 ≤ c.num ∧ c.num < sz ∧ isN c.d = true := fun c hc => by
  obtain ⟨j, hj⟩ := List.mem_iff_getElem?.1 hc
  have := h j c (List.getElem?_eq_some_iff.1 hj).1 hj
  exact ⟨this.1, this.2.1, this.2.2.1⟩
theorem sum_filter (P : List Nat) (g : Nat → Bool) (f : Nat → Nat) : ((P.filter fun p => !g p).map f).sum = (P.map fun p => if g p then 0 else f p).sum := by
  induction P with
  | nil => rfl
  | cons x P ih =>
    rw [List.map_cons, List.sum_cons, ← ih]
    cases h : g x
    · rw [List.filter_cons_of_pos (by simp [h]), List.map_cons, List.sum_cons]; simp
    · rw [List.filter_cons_of_neg (by simp [h])]; simp
/-- cells at work that make a right heap, said without memory -/
structure Aw (P : List Nat) (s : Nat → Ob) (L : List Ce) : Prop where
  nd : P.Nodup
  up : Up s P
  lst : L = P.map fun p => ceO (s p)
  gn : ∀ p ∈ P, (s p).gn = false
  bl : ∀ p ∈ P, bO s p = toF s P p
  n : ∀ p ∈ P, (s p).n = ndD (s p).d
  good : ∀ p ∈ P, gdF s P p = true
theorem Aw.num_inj {P : List Nat} {s : Nat → Ob} {L : List Ce} (h : Aw P s L) {p q : Nat} (hp : p ∈ P) (hq : q ∈ P) (e : (s p).num = (s q).num) : p = q := up_inj h.up hp hq e
theorem Aw.closed {P : List Nat} {s : Nat → Ob} {L : List Ce} (h : Aw P s L) : ∀ p ∈ P, ∀ q ∈ bO s p, q ∈ P := fun p hp q hq => by
  rw [h.bl p hp] at hq
  exact psF_mem q hq
/-- those that are there -/
def lvP (P : List Nat) (t : Nat → Ob) : List Nat := P.filter fun p => !(t p).gn
theorem plL_lv (P : List Nat) (t : Nat → Ob) : plL P t = (lvP P t).map fun p => ceO (t p) := rfl
theorem mem_lv {P : List Nat} {t : Nat → Ob} {p : Nat} : p ∈ lvP P t ↔ p ∈ P ∧ (t p).gn = false := by
  unfold lvP
  rw [List.mem_filter]
  simp
section
variable {P : List Nat} {s t : Nat → Ob} {L : List Ce} {hd : Nat → Nat}
theorem Aw.ldL (h : Aw P s L) (hs : ∀ p, Sg (s p) (t p)) {x : Nat} (hx : x ∈ P) : ldL (plL P t) (s x).num = lds P (bO s) (gO t) x := by
  have h1 : ∀ Q : List Nat, (∀ q ∈ Q, q ∈ P) → (Q.map fun p => ceO (t p)).flatMap (fun c => nms c.d) = (Q.flatMap (bO s)).map fun q => (s q).num := by
    intro Q
    induction Q with
    | nil => intro _; rfl
    | cons y Q ih =>
      intro hQ
      have hy := hQ y List.mem_cons_self
      rw [List.map_cons, List.flatMap_cons, List.flatMap_cons, List.map_append, ih fun q hq => hQ q (List.mem_cons_of_mem _ hq), h.bl y hy, to_num h.n hy (h.good y hy)]
      show nms (t y).d ++ _ = _
      rw [(hs y).d]
  unfold Hp.ldL
  rw [plL_lv, h1 _ fun q hq => (mem_lv.1 hq).1, count_map_inj (f := fun q => (s q).num) fun q hq e => by
    obtain ⟨r, hr, hq⟩ := List.mem_flatMap.1 hq
    exact h.num_inj (h.closed r (mem_lv.1 hr).1 q hq) hx e, sum_count]
  unfold lds lvP
  exact sum_filter P (gO t) fun p => (bO s p).count x
theorem Aw.live (h : Aw P s L) (hs : ∀ p, Sg (s p) (t p)) (hi : Inv P (bO s) hd (rO t) (gO t) []) {x : Nat} (hx : x ∈ P) (hg : (t x).gn = false) : (t x).r = hd x + Hp.ldL (plL P t) (s x).num := by
  rw [h.ldL hs hx]
  exact hi.nil_live hx hg
theorem Aw.up_t (h : Aw P s L) (hs : ∀ p, Sg (s p) (t p)) : Up t (lvP P t) := by
  have := h.up
  unfold Up at this ⊢
  refine List.Pairwise.sublist List.filter_sublist (this.imp fun {a b} hab => ?_)
  rw [(hs a).num, (hs b).num]
  exact hab
theorem Aw.fnd_live (h : Aw P s L) (hs : ∀ p, Sg (s p) (t p)) {x : Nat} (hx : x ∈ P) (hg : (t x).gn = false) : fndL (plL P t) (s x).num = some (ceO (t x)) := by
  rw [plL_lv, fnd_LP, fndP_yes (h.up_t hs) (mem_lv.2 ⟨hx, hg⟩) (hs x).num]
  rfl
theorem Aw.fnd_some (h : Aw P s L) (hs : ∀ p, Sg (s p) (t p)) {n : Nat} {c : Ce} (hf : fndL (plL P t) n = some c) : ∃ x, x ∈ P ∧ (t x).gn = false ∧ (s x).num = n ∧ c = ceO (t x) := by
  rw [plL_lv, fnd_LP] at hf
  cases hq : fndP t (lvP P t) n with
  | none => rw [hq] at hf; cases hf
  | some x =>
    rw [hq] at hf
    obtain ⟨h1, h2⟩ := fndP_some hq
    obtain ⟨h3, h4⟩ := mem_lv.1 h1
    exact ⟨x, h3, h4, by rw [← h2, (hs x).num], by cases hf; rfl⟩
/-- what is left is right -/
theorem Aw.left (h : Aw P s L) {sz : Nat} (hok : okH sz L) (hs : ∀ p, Sg (s p) (t p)) (hi : Inv P (bO s) hd (rO t) (gO t) []) (hr : ∀ x, x ∈ P → (t x).gn = false → (t x).r ≤ 16777216) : okH sz (plL P t) := by
  have hm : ∀ p ∈ P, ceO (s p) ∈ L := fun p hp => by rw [h.lst]; exact List.mem_map.2 ⟨p, hp, rfl⟩
  refine ⟨hok.lo, hok.hi, okTo.of (fun c hc => ?_) ?_, fun c hc k hk => ?_, fun c hc => ?_⟩
  · obtain ⟨p, hp, rfl⟩ := List.mem_map.1 (plL_lv P t ▸ hc)
    have := hok.cs.mem _ (hm p (mem_lv.1 hp).1)
    show 2 ≤ (t p).num ∧ (t p).num < sz ∧ isN (t p).d = true
    rw [(hs p).num, (hs p).d]
    exact this
  · rw [plL_lv, List.pairwise_map]
    exact h.up_t hs
  · obtain ⟨p, hp, rfl⟩ := List.mem_map.1 (plL_lv P t ▸ hc)
    obtain ⟨hp1, hp2⟩ := mem_lv.1 hp
    have hk' : k ∈ nmN (s p).n := by
      have : k ∈ nmN (ndD (t p).d) := hk
      rw [(hs p).d] at this
      rwa [h.n p hp1]
    have hg := h.good p hp1
    unfold gdF goodF at hg
    rw [List.all_eq_true] at hg
    have h2 := hg k hk'
    unfold okF at h2
    cases hf : fndP s P k.n with
    | none => rw [hf] at h2; cases h2
    | some q =>
      rw [hf] at h2
      obtain ⟨hq, hqn⟩ := fndP_some hf
      have hqb : q ∈ bO s p := by
        rw [h.bl p hp1]
        unfold toF psF
        exact List.mem_filterMap.2 ⟨k, hk', hf⟩
      have hql : (t q).gn = false := by
        cases e : (t q).gn with
        | false => rfl
        | true =>
          have h3 := (hi.dead q hq e).1
          have h4 := sum_le (f := fun p => if gO t p then 0 else (bO s p).count q) hp1
          unfold lds at h3
          rw [h3] at h4
          have h5 : (if gO t p then 0 else (bO s p).count q) = (bO s p).count q := by
            rw [if_neg (by show ¬ (t p).gn = true; rw [hp2]; decide)]
          have h6 := List.count_pos_iff.2 hqb
          simp only [h5] at h4
          omega
      refine ⟨ceO (t q), List.mem_map.2 ⟨q, mem_lv.2 ⟨hq, hql⟩, rfl⟩, ?_, ?_⟩
      · show (t q).num = k.n
        rw [(hs q).num]; exact hqn
      · show hsD (t q).d = k.hs
        rw [(hs q).d]; exact of_decide_eq_true h2
  · obtain ⟨p, hp, rfl⟩ := List.mem_map.1 (plL_lv P t ▸ hc)
    obtain ⟨hp1, hp2⟩ := mem_lv.1 hp
    have h1 := h.live hs hi hp1 hp2
    show (Hp.ldL (plL P t) (t p).num : Int) ≤ (t p).r ∧ (t p).r ≤ 16777216
    rw [(hs p).num]
    exact ⟨by omega, hr p hp1 hp2⟩
theorem Aw.heldX (h : Aw P s L) {sz : Nat} (hok : okH sz (plL P t)) (hs : ∀ p, Sg (s p) (t p)) (hi : Inv P (bO s) hd (rO t) (gO t) []) {x : Nat} (hx : x ∈ P) (hg : (t x).gn = false) : heldX sz (plL P t) (s x).num = hd x ∧ fndE sz (plL P t) (s x).num = 0 := by
  unfold Hp.heldX fndE
  rw [if_pos hok, if_pos hok, h.fnd_live hs hx hg]
  refine ⟨?_, rfl⟩
  have := h.live hs hi hx hg
  show (t x).r - (Hp.ldL (plL P t) (s x).num : Int) = _
  omega
/-- itself -/
theorem Aw.self (h : Aw P s L) : plL P s = L := by rw [plL_live h.gn, h.lst]
theorem Aw.inv (h : Aw P s L) {sz : Nat} (hok : okH sz L) : Inv P (bO s) (fun x => ((s x).r - Hp.ldL L (s x).num).toNat) (rO s) (gO s) [] := by
  refine ⟨fun x hx _ => ?_, fun x hx hg => absurd (show (s x).gn = true from hg) (by rw [h.gn x hx]; decide), fun x hx => (by cases hx)⟩
  have h1 := h.ldL (t := s) (fun p => Sg.refl _) hx
  rw [h.self] at h1
  rw [← h1]
  have h2 := hok.rf (ceO (s x)) (by rw [h.lst]; exact List.mem_map.2 ⟨x, hx, rfl⟩)
  have h3 : (Hp.ldL L (s x).num : Int) ≤ (s x).r := h2.1
  show (s x).r = _
  simp
  omega
end
theorem Lets.dead0 {P : List Nat} {bl : Nat → List Nat} {hd : Nat → Nat} {r r' : Nat → Int} {g g' : Nat → Bool} {k : List Nat} (h : Lets bl r g k r' g') (hn : P.Nodup) (hb : ∀ p ∈ P, ∀ q ∈ bl p, q ∈ P) (hi : Inv P bl hd r g k) (h0 : ∀ x ∈ P, g x = true → hd x = 0) : ∀ x ∈ P, g' x = true → hd x = 0 := by
  induction h with
  | nil r g => exact h0
  | less hne hh ih => exact ih hi.less h0
  | gone hz hh ih =>
    rename_i r r' g g' k c
    obtain ⟨hP, hg, hr⟩ := hi.alive
    refine ih (hi.gone hn hb hz) fun x hx hgx => ?_
    by_cases e : x = c
    · subst e; omega
    · rw [updF_other e] at hgx
      exact h0 x hx hgx
theorem Swp.le {bl : Nat → List Nat} {r r' : Nat → Int} {g g' : Nat → Bool} {k : List Nat} (h : Swp bl k r g r' g') : ∀ x, r' x ≤ r x := by
  induction h with
  | nil r g => intro x; exact Int.le_refl _
  | skip h hh ih => exact ih
  | take h hg hl hh ih => intro x; exact Int.le_trans (ih x) (hl.le x)
theorem Swp.live {bl : Nat → List Nat} {r r' : Nat → Int} {g g' : Nat → Bool} {k : List Nat} (h : Swp bl k r g r' g') : ∀ x, g' x = false → g x = false ∧ (r' x = 0 → r x = 0) := by
  induction h with
  | nil r g => intro x hx; exact ⟨hx, fun h => h⟩
  | skip h hh ih => exact ih
  | take h hg hl hh ih =>
    rename_i r r1 r' g g1 g' k c
    intro x hx
    obtain ⟨h1, h2⟩ := ih x hx
    obtain ⟨h3, h4⟩ := hl.keep x h1
    have e : x ≠ c := fun e => by rw [e, updF_same] at h3; cases h3
    rw [updF_other e] at h3
    exact ⟨h3, fun h0 => h4 (h2 h0)⟩
theorem Swp.none0 {bl : Nat → List Nat} {r r' : Nat → Int} {g g' : Nat → Bool} {k : List Nat} (h : Swp bl k r g r' g') : ∀ x ∈ k, g' x = false → r' x ≠ 0 := by
  induction h with
  | nil r g => intro x hx; cases hx
  | skip hno hh ih =>
    rename_i r r' g g' k c
    intro x hx hgx h0
    rcases List.mem_cons.1 hx with rfl | hx
    · obtain ⟨h1, h2⟩ := hh.live x hgx
      exact hno ⟨h2 h0, h1⟩
    · exact ih x hx hgx h0
  | take h hg hl hh ih =>
    rename_i r r1 r' g g1 g' k c
    intro x hx hgx h0
    rcases List.mem_cons.1 hx with rfl | hx
    · obtain ⟨h1, h2⟩ := hh.live x hgx
      obtain ⟨h3, h4⟩ := hl.keep x h1
      rw [updF_same] at h3
      cases h3
    · exact ih x hx hgx h0
theorem Swp.idle {bl : Nat → List Nat} {r r' : Nat → Int} {g g' : Nat → Bool} {k : List Nat} (h : Swp bl k r g r' g') (hn : ∀ x ∈ k, ¬ r x = 0) : r' = r ∧ g' = g := by
  induction h with
  | nil r g => exact ⟨rfl, rfl⟩
  | skip hno hh ih => exact ih fun x hx => hn x (List.mem_cons_of_mem _ hx)
  | take h hg hl hh ih => exact absurd h (hn _ List.mem_cons_self)
theorem Swp.dead0 {P : List Nat} {bl : Nat → List Nat} {hd : Nat → Nat} {r r' : Nat → Int} {g g' : Nat → Bool} {k : List Nat} (h : Swp bl k r g r' g') (hn : P.Nodup) (hb : ∀ p ∈ P, ∀ q ∈ bl p, q ∈ P) (hk : ∀ x ∈ k, x ∈ P) (hi : Inv P bl hd r g [])
    (hl : ∀ (r r' : Nat → Int) (g g' : Nat → Bool) (k : List Nat), Lets bl r g k r' g' → Inv P bl hd r g k → Inv P bl hd r' g' []) (h0 : ∀ x ∈ P, g x = true → hd x = 0) : ∀ x ∈ P, g' x = true → hd x = 0 := by
  induction h with
  | nil r g => exact h0
  | skip hno hh ih => exact ih (fun x hx => hk x (List.mem_cons_of_mem _ hx)) hi h0
  | take h hg hlt hh ih =>
    rename_i r r1 r' g g1 g' k c
    have hc := hk c List.mem_cons_self
    have hi2 := hi.sweep hn hb hc hg h
    have hz := hi.nil_live hc hg
    refine ih (fun x hx => hk x (List.mem_cons_of_mem _ hx)) (hl _ _ _ _ _ hlt hi2) (hlt.dead0 hn hb hi2 fun x hx hgx => ?_)
    by_cases e : x = c
    · subst e; omega
    · rw [updF_other e] at hgx
      exact h0 x hx hgx
theorem Lets.inv {P : List Nat} {bl : Nat → List Nat} {hd : Nat → Nat} (hn : P.Nodup) (hb : ∀ p ∈ P, ∀ q ∈ bl p, q ∈ P) {r r' : Nat → Int} {g g' : Nat → Bool} {k : List Nat} (h : Lets bl r g k r' g') : Inv P bl hd r g k → Inv P bl hd r' g' [] := by
  induction h with
  | nil r g => exact fun h => h
  | less hne hh ih => exact fun h => ih h.less
  | gone hz hh ih => exact fun h => ih (h.gone hn hb hz)
/-- what a sweep comes to -/
def SwP (L M : List Ce) : Prop := ∃ (P : List Nat) (s t : Nat → Ob), Aw P s L ∧ (∀ p, Sg (s p) (t p)) ∧ Swp (bO s) P (rO s) (gO s) (rO t) (gO t) ∧ M = plL P t
theorem Swp.inv {P : List Nat} {bl : Nat → List Nat} {hd : Nat → Nat} (hn : P.Nodup) (hb : ∀ p ∈ P, ∀ q ∈ bl p, q ∈ P) {r r' : Nat → Int} {g g' : Nat → Bool} {k : List Nat} (h : Swp bl k r g r' g') : (∀ x ∈ k, x ∈ P) → Inv P bl hd r g [] → Inv P bl hd r' g' [] := by
  induction h with
  | nil r g => exact fun _ h => h
  | skip hno hh ih => exact fun hk h => ih (fun x hx => hk x (List.mem_cons_of_mem _ hx)) h
  | take h hg hl hh ih =>
    rename_i r r1 r' g g1 g' k c
    exact fun hk hi => ih (fun x hx => hk x (List.mem_cons_of_mem _ hx)) (hl.inv hn hb (hi.sweep hn hb (hk c List.mem_cons_self) hg h))
theorem heldX_at {P : List Nat} {s : Nat → Ob} {L : List Ce} (h : Aw P s L) {sz : Nat} (hok : okH sz L) {x : Nat} (hx : x ∈ P) : heldX sz L (s x).num = (s x).r - ldL L (s x).num ∧ (0 : Int) ≤ (s x).r - ldL L (s x).num := by
  have h1 := h.fnd_live (t := s) (fun p => Sg.refl _) hx (h.gn x hx)
  rw [h.self] at h1
  unfold heldX
  rw [if_pos hok, h1]
  have h2 := hok.rf (ceO (s x)) (by rw [h.lst]; exact List.mem_map.2 ⟨x, hx, rfl⟩)
  have h3 : (ldL L (s x).num : Int) ≤ (s x).r := h2.1
  exact ⟨rfl, by omega⟩
theorem SwP.right {sz : Nat} {L M : List Ce} (h : SwP L M) (hok : okH sz L) : okH sz M ∧ (∀ c ∈ M, c.r ≠ 0) ∧ (∀ n, 0 < heldX sz L n → heldX sz M n = heldX sz L n ∧ fndE sz M n = 0) := by
  obtain ⟨P, s, t, ha, hs, hw, rfl⟩ := h
  have hi := ha.inv hok
  have hi2 := hw.inv ha.nd ha.closed (fun x hx => hx) hi
  have hok2 := ha.left hok hs hi2 (fun x hx hg => by
    have h1 := hw.le x
    have h2 := (hok.rf (ceO (s x)) (by rw [ha.lst]; exact List.mem_map.2 ⟨x, hx, rfl⟩)).2
    have h3 : (s x).r ≤ 16777216 := h2
    have h4 : (t x).r ≤ (s x).r := h1
    omega)
  refine ⟨hok2, fun c hc => ?_, fun n hn => ?_⟩
  · obtain ⟨p, hp, rfl⟩ := List.mem_map.1 (plL_lv P t ▸ hc)
    obtain ⟨hp1, hp2⟩ := mem_lv.1 hp
    exact hw.none0 p hp1 hp2
  · have hf : ∃ c, fndL L n = some c := by
      unfold Hp.heldX at hn
      rw [if_pos hok] at hn
      cases hq : fndL L n with
      | none => rw [hq] at hn; exact absurd hn (show ¬ (0 : Int) < 0 by decide)
      | some c => exact ⟨c, rfl⟩
    obtain ⟨c, hc⟩ := hf
    have hc' := hc
    rw [← ha.self] at hc'
    obtain ⟨x, hx, hg, hxn, _⟩ := ha.fnd_some (t := s) (fun p => Sg.refl _) hc'
    subst hxn
    obtain ⟨h1, h2⟩ := heldX_at ha hok hx
    have hlv : (t x).gn = false := by
      cases e : (t x).gn with
      | false => rfl
      | true =>
        have := hw.dead0 ha.nd ha.closed (fun x hx => hx) hi (fun _ _ _ _ _ hl hi => hl.inv ha.nd ha.closed hi) (fun y hy hgy => absurd (show (s y).gn = true from hgy) (by rw [ha.gn y hy]; decide)) x hx e
        omega
    obtain ⟨h3, h4⟩ := ha.heldX hok2 hs hi2 hx hlv
    exact ⟨by rw [h3, h1]; omega, h4⟩
/-- once more, it changes nothing -/
theorem SwP.again {L M : List Ce} (h : SwP L M) (hr : ∀ c ∈ L, c.r ≠ 0) : M = L := by
  obtain ⟨P, s, t, ha, hs, hw, rfl⟩ := h
  obtain ⟨h1, h2⟩ := hw.idle fun x hx => hr (ceO (s x)) (by rw [ha.lst]; exact List.mem_map.2 ⟨x, hx, rfl⟩)
  have hg : ∀ p ∈ P, (t p).gn = false := fun p hp => by
    have := congrFun h2 p
    exact (show (t p).gn = (s p).gn from this).trans (ha.gn p hp)
  rw [plL_live hg, ha.lst]
  apply List.map_congr_left
  intro p hp
  have h3 : (t p).r = (s p).r := congrFun h1 p
  unfold ceO
  rw [(hs p).num, (hs p).d, h3]
end Go.Proofs.YtlpejbbmemhloaaGreatDoor.Hp
/- The walk of the law HeapHolds. -/
namespace Go.Proofs.YtlpejbbmemhloaaGreatDoor.Hp
set_option linter.unusedVariables false
set_option linter.unusedSimpArgs false
set_option maxRecDepth 100000
open Go.ChangeShapes Go.WideShapes Go.ChangeAt Go.RowKit
open Ar Nd
open BigFrame
theorem okTo.pair {sz : Nat} {L : List Ce} (h : okTo sz L L.length) : L.Pairwise fun a b => a.num < b.num := by
  rw [List.pairwise_iff_getElem]
  intro i j hi hj hij
  exact h.rise j i _ _ hij (List.getElem?_eq_getElem hi) (List.getElem?_eq_getElem hj)
theorem fndL_num {L : List Ce} {num : Nat} {c : Ce} (h : fndL L num = some c) : c ∈ L ∧ c.num = num := ⟨List.mem_of_find?_eq_some h, by have := List.find?_some h; simpa using this⟩
theorem ldL_map (L : List Ce) (f : Ce → Ce) (hf : ∀ c, (f c).d = c.d) (n : Nat) : ldL (L.map f) n = ldL L n := by
  unfold ldL
  congr 1
  induction L with
  | nil => rfl
  | cons c L ih => rw [List.map_cons, List.flatMap_cons, List.flatMap_cons, ih, hf]
def hd1 (num : Nat) (d : Int) (c : Ce) : Ce := if c.num = num then ⟨c.num, c.d, c.r + d⟩ else c
theorem hd1_num (num : Nat) (d : Int) (c : Ce) : (hd1 num d c).num = c.num := by unfold hd1; split <;> rfl
theorem hd1_d (num : Nat) (d : Int) (c : Ce) : (hd1 num d c).d = c.d := by unfold hd1; split <;> rfl
theorem holdL_eq (L : List Ce) (num : Nat) : holdL L num = L.map (hd1 num 1) := rfl
theorem okH.hold {sz : Nat} {L : List Ce} {num : Nat} {c : Ce} (h : okH sz L) (hf : fndL L num = some c) (hr : c.r < 16777216) : okH sz (holdL L num) := by
  rw [holdL_eq]
  refine ⟨h.lo, h.hi, okTo.of (fun x hx => ?_) ?_, fun x hx k hk => ?_, fun x hx => ?_⟩
  · obtain ⟨y, hy, rfl⟩ := List.mem_map.1 hx
    rw [hd1_num, hd1_d]
    exact h.cs.mem y hy
  · rw [List.pairwise_map]
    exact h.cs.pair.imp fun {a b} hab => by rw [hd1_num, hd1_num]; exact hab
  · obtain ⟨y, hy, rfl⟩ := List.mem_map.1 hx
    rw [hd1_d] at hk
    obtain ⟨z, hz, h1, h2⟩ := h.ld y hy k hk
    exact ⟨_, List.mem_map.2 ⟨z, hz, rfl⟩, by rw [hd1_num]; exact h1, by rw [hd1_d]; exact h2⟩
  · obtain ⟨y, hy, rfl⟩ := List.mem_map.1 hx
    rw [hd1_num, ldL_map _ _ (hd1_d num 1)]
    have h1 := h.rf y hy
    unfold hd1
    split
    · rename_i e
      have h2 : fndL L num = some y := by
        obtain ⟨hc, hcn⟩ := fndL_num hf
        obtain ⟨i, hi⟩ := List.mem_iff_getElem?.1 hc
        obtain ⟨j, hj⟩ := List.mem_iff_getElem?.1 hy
        rcases Nat.lt_trichotomy i j with hij | rfl | hij
        · have := h.cs.rise j i _ _ hij hi hj; omega
        · rw [hi] at hj; cases hj; exact hf
        · have := h.cs.rise i j _ _ hij hj hi; omega
      rw [hf] at h2
      cases h2
      show (ldL L c.num : Int) ≤ c.r + 1 ∧ c.r + 1 ≤ 16777216
      omega
    · exact h1
end Go.Proofs.YtlpejbbmemhloaaGreatDoor.Hp
/- Mathematics of a node put into a right heap. -/
namespace Go.Proofs.YtlpejbbmemhloaaGreatDoor.Hp
set_option linter.unusedVariables false
set_option linter.unusedSimpArgs false
set_option maxRecDepth 100000
open Ar Nd
theorem fnd_mem {sz : Nat} {L : List Ce} (h : okTo sz L L.length) {x : Ce} (hx : x ∈ L) : fndL L x.num = some x := by
  obtain ⟨j, hj⟩ := List.mem_iff_getElem?.1 hx
  cases hf : fndL L x.num with
  | none =>
    unfold fndL at hf
    rw [List.find?_eq_none] at hf
    exact absurd (decide_eq_true (rfl : x.num = x.num)) (hf x hx)
  | some y =>
    obtain ⟨hy, hyn⟩ := fndL_num hf
    obtain ⟨i, hi⟩ := List.mem_iff_getElem?.1 hy
    rcases Nat.lt_trichotomy i j with hij | rfl | hij
    · have := h.rise j i _ _ hij hi hj; omega
    · rw [hi] at hj; rw [hj]
    · have := h.rise i j _ _ hij hj hi; omega
/-- a cell with one more led to by each name -/
def bmp (nd : Nd) (c : Ce) : Ce := ⟨c.num, c.d, c.r + (nmsN nd).count c.num⟩
theorem bump_eq (L : List Ce) (nd : Nd) : bump L nd = L.map (bmp nd) := rfl
theorem gap_spec : ∀ (L : List Ce) (k : Nat), gapF L k ≤ L.length ∧ (∀ j c, j < gapF L k → L[j]? = some c → c.num = k + j + 2) ∧ (∀ c, L[gapF L k]? = some c → c.num ≠ k + gapF L k + 2)
  | [], k => ⟨Nat.le_refl _, fun j c h => absurd h (Nat.not_lt_zero _), fun c h => by cases h⟩
  | c :: L, k => by
    obtain ⟨h1, h2, h3⟩ := gap_spec L (k + 1)
    unfold gapF
    by_cases e : c.num = k + 2
    · rw [if_pos e]
      refine ⟨Nat.succ_le_succ h1, fun j x hj hx => ?_, fun x hx => ?_⟩
      · cases j with
        | zero => cases hx; omega
        | succ j => have := h2 j x (by omega) (by simpa using hx); omega
      · have := h3 x (by simpa using hx); omega
    · rw [if_neg e]
      exact ⟨Nat.zero_le _, fun j x hj => absurd hj (Nat.not_lt_zero _), fun x hx => by cases hx; simpa using e⟩
theorem gapN_le (L : List Ce) : gapN L ≤ L.length := (gap_spec L 0).1
section
variable {sz : Nat} {L : List Ce} {nd : Nd}
theorem enc_dec (hw : Wd nd) (hck : ckN nd = 0) : ndD (encB nd) = nd ∧ isN (encB nd) = true := by
  have h : decN (encB nd).data.toList = some nd := by
    rw [encB_yes hck, show (bs (encN nd)).data.toList = encN nd from by unfold bs; simp]
    exact dec_enc hw hck
  exact ⟨by unfold ndD; rw [h]; rfl, by unfold isN; rw [h]; rfl⟩
/-- what is known where a node could be put -/
structure PutOk (sz : Nat) (L : List Ce) (nd : Nd) : Prop where
  ck : ckN nd = 0
  good : ∀ k ∈ nmN nd, ∃ c, fndL L k.n = some c ∧ hsD c.d = k.hs
  new : fstC L (encB nd).data.toList = none → gapN L + 2 ≠ sz ∧ ∀ c ∈ L, c.r + ((nmsN nd).count c.num : Int) ≤ 16777216
theorem goodL_iff {D : List Kd} : goodL L D = true ↔ ∀ k ∈ D, ∃ c, fndL L k.n = some c ∧ hsD c.d = k.hs := by
  unfold goodL
  rw [List.all_eq_true]
  constructor
  · intro h k hk
    have := h k hk
    cases hf : fndL L k.n with
    | none => rw [hf] at this; cases this
    | some c => rw [hf] at this; exact ⟨c, rfl, of_decide_eq_true this⟩
  · intro h k hk
    obtain ⟨c, h1, h2⟩ := h k hk
    rw [h1]
    exact decide_eq_true h2
theorem all_of_good {D : List Kd} (h : goodL L D = true) : allL L D = true := by
  unfold allL
  rw [List.all_eq_true]
  intro k hk
  obtain ⟨c, h1, _⟩ := goodL_iff.1 h k hk
  rw [h1]; rfl
theorem putE_iff : putE sz L nd = 0 ↔ PutOk sz L nd := by
  constructor
  · intro h
    by_cases hck : ckN nd = 0
    · cases ha : allL L (nmN nd) with
      | false => rw [putE_all hck ha] at h; cases h
      | true =>
        cases hg : goodL L (nmN nd) with
        | false => rw [putE_bad hck ha hg] at h; cases h
        | true =>
          refine ⟨hck, goodL_iff.1 hg, fun hf => ?_⟩
          by_cases h4 : gapN L + 2 = sz
          · rw [putE_full hck ha hg hf h4] at h; cases h
          · by_cases h5 : ∃ c ∈ L, 16777216 < c.r + ((nmsN nd).count c.num : Int)
            · rw [putE_much hck ha hg hf h4 h5] at h; cases h
            · exact ⟨h4, fun c hc => Int.not_lt.1 fun h6 => h5 ⟨c, hc, h6⟩⟩
    · rw [putE_ck hck] at h; exact absurd h hck
  · intro h
    have hg := goodL_iff.2 h.good
    have ha := all_of_good hg
    cases hf : fstC L (encB nd).data.toList with
    | some c => exact putE_has h.ck ha hg hf
    | none =>
      obtain ⟨h1, h2⟩ := h.new hf
      exact putE_new h.ck ha hg hf h1 (fun ⟨c, hc, h3⟩ => by have := h2 c hc; omega)
theorem count_zero_of {l : List Nat} {n : Nat} (h : ∀ x ∈ l, x ≠ n) : l.count n = 0 := List.count_eq_zero.2 fun hn => h n hn rfl
theorem ldL_ins (L : List Ce) (nd : Nd) (hw : Wd nd) (hck : ckN nd = 0) (g k : Nat) (r : Int) (n : Nat) : ldL ((bump L nd).take g ++ [⟨k, encB nd, r⟩] ++ (bump L nd).drop g) n = ldL L n + (nmsN nd).count n := by
  have h1 : nms (encB nd) = nmsN nd := by unfold nms nmsN; rw [(enc_dec hw hck).1]
  have h2 : ldL (bump L nd) n = ldL L n := by rw [bump_eq]; exact ldL_map L (bmp nd) (fun _ => rfl) n
  rw [← h2]
  unfold ldL
  have h3 : ((bump L nd).flatMap fun c => nms c.d) = (((bump L nd).take g).flatMap fun c => nms c.d) ++ (((bump L nd).drop g).flatMap fun c => nms c.d) := by rw [← List.flatMap_append, List.take_append_drop]
  rw [List.flatMap_append, List.flatMap_append, List.flatMap_cons, List.flatMap_nil, List.append_nil, h1, h3, List.count_append, List.count_append, List.count_append]
  omega
theorem mem_ins {M : List Ce} {g : Nat} {c x : Ce} : x ∈ M.take g ++ [c] ++ M.drop g ↔ x = c ∨ x ∈ M := by
  rw [List.mem_append, List.mem_append, List.mem_singleton]
  constructor
  · rintro ((h | h) | h)
    · exact .inr (List.mem_of_mem_take h)
    · exact .inl h
    · exact .inr (List.mem_of_mem_drop h)
  · rintro (h | h)
    · exact .inl (.inr h)
    · rw [← List.take_append_drop g M, List.mem_append] at h
      rcases h with h | h
      · exact .inl (.inl h)
      · exact .inr h
theorem putLG_some {c : Ce} (h : fstC L (encB nd).data.toList = some c) : putLG L nd = L ∧ putNG L nd = c.num := by
  unfold putLG putNG
  rw [h]
  exact ⟨rfl, rfl⟩
theorem putLG_none (h : fstC L (encB nd).data.toList = none) : putLG L nd = (bump L nd).take (gapN L) ++ [⟨gapN L + 2, encB nd, 0⟩] ++ (bump L nd).drop (gapN L) ∧ putNG L nd = gapN L + 2 := by
  unfold putLG putNG
  rw [h]
  exact ⟨rfl, rfl⟩
/-- no number is that of the first gap -/
theorem gap_no (h : okH sz L) {c : Ce} (hc : c ∈ L) : c.num ≠ gapN L + 2 := by
  obtain ⟨j, hj⟩ := List.mem_iff_getElem?.1 hc
  obtain ⟨h1, h2, h3⟩ := gap_spec L 0
  have hjl := (List.getElem?_eq_some_iff.1 hj).1
  have h4 := h.cs.ge j c hjl hj
  intro e
  show False
  have e : c.num = gapF L 0 + 2 := e
  rcases Nat.lt_trichotomy j (gapF L 0) with hl | hl | hl
  · have := h2 j c hl hj; omega
  · have := h3 c (hl ▸ hj); omega
  · omega
/-- the heap with the node is right -/
theorem PutOk.right (h : PutOk sz L nd) (hw : Wd nd) (hok : okH sz L) : okH sz (putLG L nd) := by
  cases hf : fstC L (encB nd).data.toList with
  | some c => rw [(putLG_some hf).1]; exact hok
  | none =>
    obtain ⟨hne, hmx⟩ := h.new hf
    rw [(putLG_none hf).1]
    have hgl := gapN_le L
    have hrm := hok.room
    obtain ⟨g1, g2, g3⟩ := gap_spec L 0
    have hsub : ∀ n ∈ nmsN nd, ∃ c ∈ L, c.num = n := fun n hn => by
      obtain ⟨k, hk, rfl⟩ := List.mem_map.1 hn
      obtain ⟨c, hc, _⟩ := h.good k hk
      exact ⟨c, (fndL_num hc).1, (fndL_num hc).2⟩
    refine ⟨hok.lo, hok.hi, okTo.of (fun x hx => ?_) ?_, fun x hx k hk => ?_, fun x hx => ?_⟩
    · rcases mem_ins.1 hx with rfl | hx
      · exact ⟨by show 2 ≤ gapN L + 2; omega, by show gapN L + 2 < sz; omega, (enc_dec hw h.ck).2⟩
      · obtain ⟨c, hc, rfl⟩ := List.mem_map.1 hx
        exact hok.cs.mem c hc
    · have hp : (bump L nd).Pairwise fun a b => a.num < b.num := by
        rw [bump_eq, List.pairwise_map]
        exact hok.cs.pair
      rw [List.append_assoc, List.pairwise_append]
      refine ⟨hp.sublist (List.take_sublist _ _), ?_, fun a ha b hb => ?_⟩
      · rw [List.singleton_append, List.pairwise_cons]
        refine ⟨fun b hb => ?_, hp.sublist (List.drop_sublist _ _)⟩
        obtain ⟨j, hj⟩ := List.mem_iff_getElem?.1 hb
        rw [List.getElem?_drop, bump_eq, List.getElem?_map] at hj
        cases hc : L[gapN L + j]? with
        | none => rw [hc] at hj; cases hj
        | some c =>
          rw [hc] at hj
          cases hj
          have h4 := hok.cs.ge _ c (List.getElem?_eq_some_iff.1 hc).1 hc
          have h5 := gap_no hok (List.mem_of_getElem? hc)
          show gapN L + 2 < c.num
          omega
      · obtain ⟨i, hi⟩ := List.mem_iff_getElem?.1 ha
        rw [List.getElem?_take] at hi
        split at hi
        · rename_i hig
          rw [bump_eq, List.getElem?_map] at hi
          cases hc : L[i]? with
          | none => rw [hc] at hi; cases hi
          | some c =>
            rw [hc] at hi
            cases hi
            have h4 := g2 i c hig hc
            rcases List.mem_append.1 hb with hb | hb
            · rw [List.mem_singleton.1 hb]
              show c.num < gapN L + 2
              unfold gapN at *
              omega
            · obtain ⟨j, hj⟩ := List.mem_iff_getElem?.1 hb
              rw [List.getElem?_drop, bump_eq, List.getElem?_map] at hj
              cases hd : L[gapN L + j]? with
              | none => rw [hd] at hj; cases hj
              | some d =>
                rw [hd] at hj
                cases hj
                exact hok.cs.rise (gapN L + j) i c d (by unfold gapN at *; omega) hc hd
        · cases hi
    · have hbk : ∀ c ∈ L, bmp nd c ∈ (bump L nd).take (gapN L) ++ [⟨gapN L + 2, encB nd, 0⟩] ++ (bump L nd).drop (gapN L) := fun c hc => mem_ins.2 (.inr (List.mem_map.2 ⟨c, hc, rfl⟩))
      rcases mem_ins.1 hx with rfl | hx
      · have hk' : k ∈ nmN nd := by
          have : k ∈ nmN (ndD (encB nd)) := hk
          rwa [(enc_dec hw h.ck).1] at this
        obtain ⟨c, hc, hs⟩ := h.good k hk'
        exact ⟨_, hbk c (fndL_num hc).1, (fndL_num hc).2, hs⟩
      · obtain ⟨c, hc, rfl⟩ := List.mem_map.1 hx
        obtain ⟨y, hy, h1, h2⟩ := hok.ld c hc k hk
        exact ⟨_, hbk y hy, h1, h2⟩
    · rcases mem_ins.1 hx with rfl | hx
      · rw [ldL_ins L nd hw h.ck]
        have z1 : ldL L (gapN L + 2) = 0 := by
          unfold ldL
          refine count_zero_of fun y hy e => ?_
          obtain ⟨c, hc, hyc⟩ := List.mem_flatMap.1 hy
          obtain ⟨k, hk, rfl⟩ := List.mem_map.1 hyc
          obtain ⟨d, hd, h1, _⟩ := hok.ld c hc k hk
          exact gap_no hok hd (h1.trans e)
        have z2 : (nmsN nd).count (gapN L + 2) = 0 := count_zero_of fun y hy e => by
          obtain ⟨c, hc, h1⟩ := hsub y hy
          exact gap_no hok hc (h1.trans e)
        rw [show (⟨gapN L + 2, encB nd, 0⟩ : Ce).num = gapN L + 2 from rfl, z1, z2]
        show (((0 + 0 : Nat)) : Int) ≤ 0 ∧ (0 : Int) ≤ 16777216
        decide
      · obtain ⟨c, hc, rfl⟩ := List.mem_map.1 hx
        have h1 := hok.rf c hc
        have h2 := hmx c hc
        rw [ldL_ins L nd hw h.ck]
        show ((ldL L c.num + (nmsN nd).count c.num : Nat) : Int) ≤ c.r + ((nmsN nd).count c.num : Int) ∧ c.r + ((nmsN nd).count c.num : Int) ≤ 16777216
        omega
/-- what a number had before it has then -/
theorem PutOk.old (h : PutOk sz L nd) (hw : Wd nd) (hok : okH sz L) {n : Nat} {c : Ce} (hc : fndL L n = some c) : ∃ c', fndL (putLG L nd) n = some c' ∧ c'.d = c.d ∧ c'.num = c.num ∧ c'.r - (ldL (putLG L nd) n : Int) = c.r - (ldL L n : Int) := by
  cases hf : fstC L (encB nd).data.toList with
  | some c0 => rw [(putLG_some hf).1]; exact ⟨c, hc, rfl, rfl, rfl⟩
  | none =>
    have hr := (h.right hw hok).cs
    obtain ⟨h1, h2⟩ := fndL_num hc
    have hm : bmp nd c ∈ putLG L nd := by rw [(putLG_none hf).1]; exact mem_ins.2 (.inr (List.mem_map.2 ⟨c, h1, rfl⟩))
    have h3 := fnd_mem hr hm
    refine ⟨bmp nd c, by rw [← h2]; exact h3, rfl, rfl, ?_⟩
    rw [(putLG_none hf).1, ldL_ins L nd hw h.ck]
    show c.r + ((nmsN nd).count c.num : Int) - ((ldL L n + (nmsN nd).count n : Nat) : Int) = _
    rw [h2]
    omega
/-- the node's cell -/
theorem PutOk.cell (h : PutOk sz L nd) (hw : Wd nd) (hok : okH sz L) : ∃ c, fndL (putLG L nd) (putNG L nd) = some c ∧ c.d = encB nd ∧ fstC (putLG L nd) (encB nd).data.toList = some c := by
  cases hf : fstC L (encB nd).data.toList with
  | some c =>
    rw [(putLG_some hf).1, (putLG_some hf).2]
    have h1 : c ∈ L := List.mem_of_find?_eq_some hf
    have h2 : c.d.data.toList = (encB nd).data.toList := by have := List.find?_some hf; simpa using this
    exact ⟨c, fnd_mem hok.cs h1, by
      have : c.d.data = (encB nd).data := Array.ext' h2
      cases hc : c.d; cases he : encB nd; rw [hc, he] at this; simp at this; rw [this], hf⟩
  | none =>
    have hr := (h.right hw hok).cs
    have hm : (⟨gapN L + 2, encB nd, 0⟩ : Ce) ∈ putLG L nd := by rw [(putLG_none hf).1]; exact mem_ins.2 (.inl rfl)
    refine ⟨⟨gapN L + 2, encB nd, 0⟩, by rw [(putLG_none hf).2]; exact fnd_mem hr hm, rfl, ?_⟩
    rw [(putLG_none hf).1]
    unfold fstC
    rw [List.append_assoc, List.find?_append]
    have h1 : ((bump L nd).take (gapN L)).find? (fun c => decide (c.d.data.toList = (encB nd).data.toList)) = none := by
      rw [List.find?_eq_none]
      intro x hx
      obtain ⟨c, hc, rfl⟩ := List.mem_map.1 (List.mem_of_mem_take hx)
      unfold fstC at hf
      rw [List.find?_eq_none] at hf
      exact hf c hc
    rw [h1, Option.none_or, List.singleton_append, List.find?_cons_of_pos (by exact decide_eq_true rfl)]
/-- put once more it is the same -/
theorem PutOk.again (h : PutOk sz L nd) (hw : Wd nd) (hok : okH sz L) : PutOk sz (putLG L nd) nd ∧ putLG (putLG L nd) nd = putLG L nd ∧ kidG (putLG L nd) nd = kidG L nd := by
  obtain ⟨c, h1, h2, h3⟩ := h.cell hw hok
  obtain ⟨h4, h5⟩ := putLG_some h3
  refine ⟨⟨h.ck, fun k hk => ?_, fun hn => by rw [h3] at hn; cases hn⟩, h4, ?_⟩
  · obtain ⟨x, hx, hs⟩ := h.good k hk
    obtain ⟨y, hy, hyd, _⟩ := h.old hw hok hx
    exact ⟨y, hy, by rw [hyd]; exact hs⟩
  · unfold kidG
    rw [h5, (fndL_num h1).2]
theorem PutOk.len (h : PutOk sz L nd) : (putLG L nd).length = L.length ∨ (putLG L nd).length = L.length + 1 := by
  cases hf : fstC L (encB nd).data.toList with
  | some c => rw [(putLG_some hf).1]; exact .inl rfl
  | none =>
    right
    rw [(putLG_none hf).1, List.length_append, List.length_append, List.length_take, List.length_drop, List.length_singleton]
    have : (bump L nd).length = L.length := List.length_map _
    have := gapN_le L
    omega
end
end Go.Proofs.YtlpejbbmemhloaaGreatDoor.Hp
/- Mathematics of TopNamed: two leaves in a new heap, and a branch over them. -/
namespace Go.Proofs.YtlpejbbmemhloaaGreatDoor.Hp
set_option linter.unusedVariables false
set_option linter.unusedSimpArgs false
set_option maxRecDepth 100000
open Ar Nd
def lf (X : List It.Itm) : Nd := ⟨1, X, [], []⟩
def upN (a b : ByteArray) (hs ht : List UInt8) : Nd := ⟨2, [], [⟨a, 2, hs⟩, ⟨b, 3, ht⟩], []⟩
theorem lf_wd (X : List It.Itm) : Wd (lf X) := ⟨fun x hx => (by cases hx), fun x hx => (by cases hx)⟩
theorem upN_wd {a b : ByteArray} {hs ht : List UInt8} (h1 : hs.length = 32) (h2 : ht.length = 32) : Wd (upN a b hs ht) := ⟨fun x hx => by
  have hx : x = ⟨a, 2, hs⟩ ∨ x = ⟨b, 3, ht⟩ := by
    have h3 : x ∈ [(⟨a, 2, hs⟩ : Kd), ⟨b, 3, ht⟩] := hx
    simpa using h3
  rcases hx with rfl | rfl
  · exact ⟨show 2 < 256 ^ 4 by decide, h1⟩
  · exact ⟨show 3 < 256 ^ 4 by decide, h2⟩, fun x hx => (by cases hx)⟩
theorem tn0 : okH 16 [] := ⟨Nat.le_refl _, by decide, fun j c hj => absurd hj (Nat.not_lt_zero _), fun c hc => (by cases hc), fun c hc => (by cases hc)⟩
theorem lf_nm (X : List It.Itm) : nmN (lf X) = [] := rfl
theorem encB_inj {a b : Nd} (ha : Wd a) (hb : Wd b) (ca : ckN a = 0) (cb : ckN b = 0) (h : (encB a).data.toList = (encB b).data.toList) : a = b := by
  rw [encB_yes ca, encB_yes cb, bs_data, bs_data] at h
  exact enc_inj ha hb ca cb h
theorem lf_inj {X Y : List It.Itm} (h : lf X = lf Y) : X = Y := congrArg Nd.I h
/-- the first leaf -/
theorem tp1 {X : List It.Itm} (hc : ckN (lf X) = 0) : PutOk 16 [] (lf X) ∧ putLG [] (lf X) = [⟨2, encB (lf X), 0⟩] ∧ kidG [] (lf X) = ⟨⟨#[]⟩, 2, hsD (encB (lf X))⟩ :=
  ⟨⟨hc, fun k hk => (by rw [lf_nm] at hk; cases hk), fun _ => ⟨by decide, fun c hc => (by cases hc)⟩⟩, rfl, rfl⟩
theorem tf1 {X Y : List It.Itm} (hx : ckN (lf X) = 0) (hy : ckN (lf Y) = 0) (hne : X ≠ Y) : fstC [⟨2, encB (lf X), 0⟩] (encB (lf Y)).data.toList = none := by
  unfold fstC
  rw [List.find?_eq_none]
  intro c hc
  have hc : c = ⟨2, encB (lf X), 0⟩ := by simpa using hc
  subst hc
  intro h
  exact hne (lf_inj (encB_inj (lf_wd X) (lf_wd Y) hx hy (of_decide_eq_true h)))
/-- the second leaf, another one -/
theorem tp2 {X Y : List It.Itm} (hx : ckN (lf X) = 0) (hy : ckN (lf Y) = 0) (hne : X ≠ Y) : PutOk 16 [⟨2, encB (lf X), 0⟩] (lf Y) ∧ putLG [⟨2, encB (lf X), 0⟩] (lf Y) = [⟨2, encB (lf X), 0⟩, ⟨3, encB (lf Y), 0⟩] ∧ kidG [⟨2, encB (lf X), 0⟩] (lf Y) = ⟨⟨#[]⟩, 3, hsD (encB (lf Y))⟩ := by
  have hf := tf1 hx hy hne
  refine ⟨⟨hy, fun k hk => (by rw [lf_nm] at hk; cases hk), fun _ => ⟨?_, fun c hc => ?_⟩⟩, ?_, ?_⟩
  · show gapF [⟨2, encB (lf X), 0⟩] 0 + 2 ≠ 16
    simp [gapF]
  · have hc : c = ⟨2, encB (lf X), 0⟩ := by simpa using hc
    subst hc
    show (0 : Int) + ((((nmN (lf Y)).map (·.n)).count 2 : Nat) : Int) ≤ 16777216
    rw [lf_nm]
    decide
  · rw [(putLG_none hf).1]
    show ((bump [⟨2, encB (lf X), 0⟩] (lf Y)).take (gapF [⟨2, encB (lf X), 0⟩] 0)) ++ _ ++ _ = _
    simp [gapF, gapN, bump, nmsN, lf_nm]
  · unfold kidG
    rw [(putLG_none hf).2]
    show (⟨_, gapF [⟨2, encB (lf X), 0⟩] 0 + 2, _⟩ : Kd) = _
    simp [gapF]
theorem trt {X : List It.Itm} (h : ckN (lf X) = 0) : ∃ x r, X = x :: r ∧ x.k.size ≠ 0 ∧ x.k.size ≤ 48 := by
  have h1 := (ck_zero.1 h).1
  unfold rtN lf at h1
  dsimp only at h1
  rw [if_pos rfl, Bool.and_eq_true, Bool.and_eq_true, Bool.and_eq_true] at h1
  obtain ⟨_, _, hc, hr⟩ := h1
  unfold okCount at hc
  rw [Bool.and_eq_true, decide_eq_true_iff, decide_eq_true_iff] at hc
  match X, hc, hr with
  | [], hc, _ => exact absurd hc.1 (by decide)
  | x :: r, _, hr =>
    have ho := rtI_all none (x :: r) hr x List.mem_cons_self
    unfold It.okI It.okKey at ho
    simp only [Bool.and_eq_true, decide_eq_true_iff] at ho
    refine ⟨x, r, rfl, ?_, ?_⟩ <;> (first | exact ho.1.1 | exact ho.1.2 | omega)
/-- the branch over both -/
theorem tp3 {X Y : List It.Itm} {a b : ByteArray} (ha : a.size ≠ 0) (ha2 : a.size ≤ 48) (hb : b.size ≠ 0) (hb2 : b.size ≤ 48) (hl : By.bl a.data.toList b.data.toList = true) :
    PutOk 16 [⟨2, encB (lf X), 0⟩, ⟨3, encB (lf Y), 0⟩] (upN a b (hsD (encB (lf X))) (hsD (encB (lf Y)))) := by
  refine ⟨ck_zero.2 ⟨?_, ?_⟩, fun k hk => ?_, fun _ => ⟨?_, fun c hc => ?_⟩⟩
  · unfold rtN upN
    dsimp only
    rw [if_neg (by decide), if_pos rfl]
    simp [rtK, okK, relK, okNum, okCount, ha, ha2, hb, hb2, hl]
  · unfold szN upN
    dsimp only
    rw [if_neg (by decide), if_pos rfl]
    simp only [List.map_cons, List.map_nil, List.sum_cons, List.sum_nil, szK]
    omega
  · have hk : k = ⟨⟨#[]⟩, 2, hsD (encB (lf X))⟩ ∨ k = ⟨⟨#[]⟩, 3, hsD (encB (lf Y))⟩ := by
      have h3 : k ∈ [(⟨⟨#[]⟩, 2, hsD (encB (lf X))⟩ : Kd), ⟨⟨#[]⟩, 3, hsD (encB (lf Y))⟩] := hk
      simpa using h3
    rcases hk with rfl | rfl
    · exact ⟨⟨2, encB (lf X), 0⟩, rfl, rfl⟩
    · exact ⟨⟨3, encB (lf Y), 0⟩, rfl, rfl⟩
  · show gapF [⟨2, encB (lf X), 0⟩, ⟨3, encB (lf Y), 0⟩] 0 + 2 ≠ 16
    simp [gapF]
  · have hn : nmsN (upN a b (hsD (encB (lf X))) (hsD (encB (lf Y)))) = [2, 3] := rfl
    have hc : c = ⟨2, encB (lf X), 0⟩ ∨ c = ⟨3, encB (lf Y), 0⟩ := by simpa using hc
    rw [hn]
    rcases hc with rfl | rfl
    · exact (show (0 : Int) + ((([2, 3] : List Nat).count 2 : Nat) : Int) ≤ 16777216 by decide)
    · exact (show (0 : Int) + ((([2, 3] : List Nat).count 3 : Nat) : Int) ≤ 16777216 by decide)
theorem up_kd (a b : ByteArray) (hs ht : List UInt8) : kdN (upN a b hs ht) = [2, 3] := rfl
theorem PutOk.told {sz : Nat} {L : List Ce} {nd : Nd} (h : PutOk sz L nd) (hw : Wd nd) (hok : okH sz L) : getX sz (putLG L nd) (kidG L nd).n = nd ∧ fndE sz (putLG L nd) (kidG L nd).n = 0 := by
  obtain ⟨c, h1, h2, _⟩ := h.cell hw hok
  have hr := h.right hw hok
  unfold getX fndE
  rw [if_pos hr, if_pos hr, show (kidG L nd).n = putNG L nd from rfl, h1]
  refine ⟨?_, rfl⟩
  show ndD c.d = nd
  rw [h2]
  exact (enc_dec hw h.ck).1
end Go.Proofs.YtlpejbbmemhloaaGreatDoor.Hp
/- Contract of cambiumtop's same: whether two lists of items are one. -/
namespace Go.Proofs.YtlpejbbmemhloaaGreatDoor.Nd
set_option linter.unusedVariables false
set_option linter.unusedSimpArgs false
open Go.ChangeShapes Go.WideShapes Go.ChangeAt Go.RowKit
open Ar Rg
open BigFrame
open Pk (u8s u8s_length)
open It (str_le below_drewN)
set_option maxRecDepth 100000 in
set_option maxHeartbeats 1000000 in
theorem sameT_any (D E : List It.Itm) (A A' : Option Addr) (n c n' c' B B' : Nat) (hn : n = D.length) (hn' : n' = E.length) (hm : n ≤ 281474976710656) (w : World) (hB : B ≤ w.heap.size) (hB' : B' ≤ w.heap.size) (hD : Ls It.enc 2 w B A D) (hE : Ls It.enc 2 w B' A' E) :
    Calls Tryz.prog 31 #[.slice A n c, .slice A' n' c'] w fun e w' => e = .returned (.bool (eqL eqI D E)) ∧ Below w.heap.size w w' := by
  have HN := Lib.hid hn
  have HN' := Lib.hid hn'
  have HD := Lib.hid hD
  have HE := Lib.hid hE
  clear hn hn' hD hE
  by_cases hl : n = n'
  · subst hl
    go_enter Tryz.func31, Tryz.ntmps31
    go_wp2_with fail
    go_loopw [13] (fun v wr => ∃ i : Nat, i ≤ n ∧ v = .int .i64 i ∧ Hid (D.take i = E.take i) ∧ Hid (Below w.heap.size w wr)) (fun v _ => n - (intOf v).toNat)
    case atStart => exact ⟨0, Nat.zero_le _, by go_num, rfl, Below.refl _ _⟩
    case round =>
      obtain ⟨i, hi, rfl, htk, hbel⟩ := hrel
      by_cases hlt : i < n
      · obtain ⟨x, hx⟩ : ∃ x, D[i]? = some x := ⟨_, List.getElem?_eq_getElem (by rw [← HN.out]; exact hlt)⟩
        obtain ⟨y, hy⟩ : ∃ y, E[i]? = some y := ⟨_, List.getElem?_eq_getElem (by rw [← HN'.out]; exact hlt)⟩
        obtain ⟨b, o, hAe, hb, hr⟩ := (HD.out.below ((Hid.out hbel).mono hB)) i x hx
        obtain ⟨b', o', hAe', hb', hr'⟩ := (HE.out.below ((Hid.out hbel).mono hB')) i y hy
        have hc0 : wr.cell? ⟨b, o + i * 2, none⟩ = some (.string x.k) := hr 0 _ rfl
        have hc1 : wr.cell? ⟨b, o + i * 2 + 1, none⟩ = some (.string x.v) := hr 1 _ rfl
        have hd0 : wr.cell? ⟨b', o' + i * 2, none⟩ = some (.string y.k) := hr' 0 _ rfl
        have hd1 : wr.cell? ⟨b', o' + i * 2 + 1, none⟩ = some (.string y.v) := hr' 1 _ rfl
        clear hr hr'
        subst hAe hAe'
        by_cases hk : x.k = y.k
        · have he0 : (x.k.toList == y.k.toList) = true := by rw [str_same]; exact decide_eq_true hk
          by_cases hv : x.v = y.v
          · have he1 : (x.v.toList == y.v.toList) = true := by rw [str_same]; exact decide_eq_true hv
            have HT := Lib.hid (take_same (Hid.out htk) hx ((show y = x by obtain ⟨a1, a2⟩ := x; obtain ⟨b1, b2⟩ := y; dsimp only at hk hv; rw [hk, hv]) ▸ hy))
            clear htk hx hy hk hv
            go_wp2_with fail
            go_big_quiet (fail)
            have HB2 := Lib.hid (below_drewN (Hid.out hbel) nq)
            clear hbel
            generalize World.drewN _ _ = W2 at *
            go_wp2
            exact ⟨⟨i + 1, by omega, by go_num, HT.out, HB2.out⟩, by simp [intOf] <;> omega⟩
          · have he1 : (x.v.toList == y.v.toList) = false := by rw [str_same]; exact decide_eq_false hv
            have HF := Lib.hid (eqL_no eqI_iff (A := D) (B := E) fun e => hv (by rw [e, hy] at hx; cases hx; rfl))
            clear htk hx hy hk hv
            go_wp2_with fail
            go_big_quiet (fail)
            have HB2 := Lib.hid (below_drewN (Hid.out hbel) nq)
            clear hbel
            generalize World.drewN _ _ = W2 at *
            go_wp2
            go_ret
            exact ⟨by rw [HF.out]; rfl, HB2.out⟩
        · have he0 : (x.k.toList == y.k.toList) = false := by rw [str_same]; exact decide_eq_false hk
          have HF := Lib.hid (eqL_no eqI_iff (A := D) (B := E) fun e => hk (by rw [e, hy] at hx; cases hx; rfl))
          clear htk hx hy hk
          go_wp2_with fail
          go_big_quiet (fail)
          have HB2 := Lib.hid (below_drewN (Hid.out hbel) nq)
          clear hbel
          generalize World.drewN _ _ = W2 at *
          go_wp2
          go_ret
          exact ⟨by rw [HF.out]; rfl, HB2.out⟩
      · have HT := Lib.hid (show eqL eqI D E = true from (eqL_iff eqI_iff).2 (by
          have h := Hid.out htk
          rwa [List.take_of_length_le (by rw [← HN.out]; omega), List.take_of_length_le (by rw [← HN'.out]; omega)] at h))
        go_wp2
        go_ret
        exact ⟨by rw [HT.out]; rfl, Hid.out hbel⟩
  · have hne : ((n : Int) != (n' : Int)) = true := by rw [bne_iff_ne]; omega
    have HF := Lib.hid (eqL_no eqI_iff (A := D) (B := E) fun e => hl (by rw [HN.out, HN'.out, e]))
    go_enter Tryz.func31, Tryz.ntmps31
    go_wp2
    go_ret
    exact ⟨by rw [HF.out]; rfl, Below.refl _ _⟩
end Go.Proofs.YtlpejbbmemhloaaGreatDoor.Nd
/- The answers that cambiumtop's begins asks for are given. -/
namespace Go.Proofs.YtlpejbbmemhloaaGreatDoor.Be
set_option linter.unusedVariables false
open Go.ChangeShapes Go.WideShapes Go.ChangeAt Go.RowKit
open Pk (crc psum_any u8s u8s_length)
open Hk (Row kc first hash_length sum_lit row_below abc_facts abc_data)
theorem run_index_at {C : Array Value} {l : List UInt8} (hC : C = (u8s l).toArray) (hl : l.length = 32) (i : Nat) (b : UInt8) (hb : l[i]? = some b) (w : World) : (Instr.index 43 (.agg C) (.int .i64 i)).run Tryz.prog w = .ok (.int .u8 b.toNat) w := by
  have hi : i < 32 := by have := (List.getElem?_eq_some_iff.1 hb).1; omega
  have h0 : C[i]? = some (.int .u8 (b.toNat : Int)) := by rw [hC]; simp [u8s, hb]
  have hz : C.size = 32 := by rw [hC, List.size_toArray, u8s_length, hl]
  simp [Instr.index, run_underlying Tryz.underlying43, asIntOf, go_sem, hz, hi]
  exact Option.some.inj ((Array.getElem?_eq_getElem (by omega)).symm.trans h0)
set_option maxRecDepth 100000 in
theorem crc_digits : crc [49, 50, 51, 52, 53, 54, 55, 56, 57] = 806403967#32 := by decide +kernel
variable {tK tS : TypeId}
set_option maxRecDepth 100000 in
set_option maxHeartbeats 1000000 in
theorem begins_any (w : World) (hR : Row w 1 tK kc) (hR0 : Row w 0 tS first.list) :
    Calls Tryz.prog 28 #[] w fun e w' => e = .returned (.bool true) ∧ Below w.heap.size w w' := by
  have RK := Lib.hid hR
  have RF := Lib.hid hR0
  clear hR hR0
  have hc : ∀ w : World, Calls Tryz.prog 54 #[.string ⟨#[49, 50, 51, 52, 53, 54, 55, 56, 57]⟩] w fun e w' => e = .returned (.int .u32 806403967) ∧ Below w.heap.size w w' := by
    intro w
    have := psum_any ⟨#[49, 50, 51, 52, 53, 54, 55, 56, 57]⟩ w (by decide)
    rw [show crc (⟨#[49, 50, 51, 52, 53, 54, 55, 56, 57]⟩ : ByteArray).data.toList = 806403967#32 from crc_digits] at this
    exact this
  have HC := Lib.hid hc
  clear hc
  go_enter Tryz.func28, Tryz.ntmps28
  go_wp2_with fail
  (go_at_call 54; refine (HC.out _).mono ?_; rintro e w1 ⟨rfl, hb1⟩)
  have B1 := Lib.hid hb1
  clear hb1
  go_wp2_with fail
  (go_at_call 30; (with_reducible refine (sum_lit _ (by decide) _ (row_below RK.out B1.out RK.out.lt) (row_below RF.out B1.out RF.out.lt)).mono ?_); rintro e w2 ⟨C, hC, rfl, hb2⟩)
  rw [abc_data] at hC
  have hix := run_index_at hC (hash_length _) 0 186 abc_facts.1
  have HCC := Lib.hid hC
  have B2 := Lib.hid (B1.out.trans (hb2.mono B1.out.size))
  clear hC hb2
  have hix0 : ∀ w, (Instr.index 43 (.agg C) (.int .i64 0)).run Tryz.prog w = .ok (.int .u8 186) w := hix
  clear hix
  go_wp2
  go_ret
  exact ⟨rfl, B2.out⟩
end Go.Proofs.YtlpejbbmemhloaaGreatDoor.Be
/- Two variables, made one behind the other. -/
namespace Go.Proofs.YtlpejbbmemhloaaGreatDoor.Hp
open Go.ChangeShapes Go.WideShapes Go.ChangeAt Go.RowKit
open Ar Nd
open BigFrame
/-- two variables, made one behind the other, the second one stored over -/
theorem two_set (w2 : World) (cs z c : Array Value) (t u : TypeId) :
    (((w2.alloc (.cells cs t)).alloc (.cells z u)).setRow (w2.heap.size + 1) c).heap[w2.heap.size]? = some (.cells cs t (0, 0)) ∧
    (((w2.alloc (.cells cs t)).alloc (.cells z u)).setRow (w2.heap.size + 1) c).heap[w2.heap.size + 1]? = some (.cells c u (0, 0)) ∧
    Below w2.heap.size w2 (((w2.alloc (.cells cs t)).alloc (.cells z u)).setRow (w2.heap.size + 1) c) := by
  obtain ⟨R1, R2, S2, Z2⟩ := two_new w2 cs z t u
  exact ⟨row_other (grown_row _ _ _) R1 (by omega), setRow_at R2, S2.trans (below_of_grown (grown_row _ _ _) (by rw [Z2]; omega) (by omega))⟩
end Go.Proofs.YtlpejbbmemhloaaGreatDoor.Hp
/- The walk of the law TopNamed. -/
namespace Go.Proofs.YtlpejbbmemhloaaGreatDoor.Hp
set_option linter.unusedVariables false
set_option linter.unusedSimpArgs false
set_option maxRecDepth 100000
open Go.ChangeShapes Go.WideShapes Go.ChangeAt Go.RowKit
open Ar Nd
open BigFrame
open Pk (u8s u8s_length)
open Rg
open Hk (sum_lit hashOf)
theorem okH.few {sz : Nat} {L : List Ce} (h : okH sz L) : L.length ≤ 65536 ∧ ∀ c ∈ L, c.d.size ≤ 512 := ⟨h.cs.len h.hi, fun c hc => isN_size (h.cs.mem c hc).2.2⟩
theorem infoH32 {l : List UInt8} (h : l.length = 32) : (Tryz.prog.info? 43).map (·.size) = some (u8s l).length := by rw [u8s_length, h]; kernel_rfl
theorem put_first {X : List It.Itm} {z : Int} {s : Nat} {L : List Ce} {y : Kd} (h : PuR 16 [] (lf X) z s L y) : z = ckN (lf X) ∧ s = 16 ∧ ((ckN (lf X) ≠ 0 ∧ L = [] ∧ y = kd0) ∨ (ckN (lf X) = 0 ∧ L = [⟨2, encB (lf X), 0⟩] ∧ y = ⟨⟨#[]⟩, 2, hsD (encB (lf X))⟩)) := by
  rcases h with ⟨h1, _⟩ | ⟨_, h2, h3, h4⟩
  · exact absurd tn0 h1
  · by_cases hc : ckN (lf X) = 0
    · have hp := tp1 hc
      have hz : z = 0 := h3.trans (putE_iff.2 hp.1)
      refine ⟨hz.trans hc.symm, h2, .inr ⟨hc, ?_⟩⟩
      rcases h4 with ⟨_, h5, h6⟩ | ⟨h5, _⟩
      · exact ⟨h5.trans hp.2.1, h6.trans hp.2.2⟩
      · exact absurd hz h5
    · have hz : z = ckN (lf X) := h3.trans (putE_ck hc)
      refine ⟨hz, h2, .inl ⟨hc, ?_⟩⟩
      rcases h4 with ⟨h5, _⟩ | ⟨_, h5, h6⟩
      · exact absurd (hz.symm.trans h5) hc
      · exact ⟨h5, h6⟩
theorem put_next {X Y : List It.Itm} (hx : ckN (lf X) = 0) {z : Int} {s : Nat} {L : List Ce} {y : Kd} (h : PuR 16 [⟨2, encB (lf X), 0⟩] (lf Y) z s L y) (hy : ckN (lf Y) = 0) :
    z = 0 ∧ s = 16 ∧ L = putLG [⟨2, encB (lf X), 0⟩] (lf Y) ∧ y = kidG [⟨2, encB (lf X), 0⟩] (lf Y) := by
  have h1 := tp1 hx
  have hok := h1.1.right (lf_wd X) tn0
  rw [h1.2.1] at hok
  have hp : PutOk 16 [⟨2, encB (lf X), 0⟩] (lf Y) := by
    by_cases e : X = Y
    · subst e
      have := (h1.1.again (lf_wd X) tn0).1
      rwa [h1.2.1] at this
    · exact (tp2 hx hy e).1
  rcases h with ⟨h2, _⟩ | ⟨_, h2, h3, h4⟩
  · exact absurd hok h2
  · have hz : z = 0 := h3.trans (putE_iff.2 hp)
    rcases h4 with ⟨_, h5, h6⟩ | ⟨h5, _⟩
    · exact ⟨hz, h2, h5, h6⟩
    · exact absurd hz h5
theorem PuR.ok {sz sz' : Nat} {L L' : List Ce} {nd : Nd} {z : Int} {kd : Kd} (h : PuR sz L nd z sz' L' kd) (hok : okH sz L) (hp : PutOk sz L nd) : z = 0 ∧ sz' = sz ∧ L' = putLG L nd ∧ kd = kidG L nd := by
  rcases h with ⟨h1, _⟩ | ⟨_, h2, h3, ⟨h0, h4, h5⟩ | ⟨h4, _⟩⟩
  · exact absurd hok h1
  · exact ⟨h0, h2, h4, h5⟩
  · exact absurd (h3.trans (putE_iff.2 hp)) h4
theorem put_no {sz : Nat} {L : List Ce} {nd : Nd} {z : Int} {s : Nat} {L' : List Ce} {y : Kd} (h : PuR sz L nd z s L' y) (hok : okH sz L) (hc : ckN nd ≠ 0) : z ≠ 0 := by
  rcases h with ⟨h1, _⟩ | ⟨_, _, h3, _⟩
  · exact absurd hok h1
  · rw [h3, putE_ck hc]; exact hc
theorem PuR.hl {sz : Nat} {L : List Ce} {nd : Nd} {z : Int} {s : Nat} {L' : List Ce} {y : Kd} (h : PuR sz L nd z s L' y) : y.hs.length = 32 := by
  rcases h with ⟨_, _, _, _, rfl⟩ | ⟨_, _, _, ⟨_, _, rfl⟩ | ⟨_, _, rfl⟩⟩
  · rfl
  · exact hsD_len _
  · rfl
theorem tn1 {X : List It.Itm} (hx : ckN (lf X) = 0) : okH 16 [⟨2, encB (lf X), 0⟩] := by
  have h := (tp1 hx).1.right (lf_wd X) tn0
  rwa [(tp1 hx).2.1] at h
theorem tn2 {X Y : List It.Itm} (hx : ckN (lf X) = 0) (hy : ckN (lf Y) = 0) (hne : X ≠ Y) : okH 16 [⟨2, encB (lf X), 0⟩, ⟨3, encB (lf Y), 0⟩] := by
  have h := (tp2 hx hy hne).1.right (lf_wd Y) (tn1 hx)
  rwa [(tp2 hx hy hne).2.1] at h
theorem enc_few {X : List It.Itm} (hx : ckN (lf X) = 0) : (encB (lf X)).size ≤ 140737488351232 := Nat.le_trans (isN_size (enc_dec (lf_wd X) hx).2) (by decide)
theorem put_same {X : List It.Itm} (hx : ckN (lf X) = 0) : kidG [⟨2, encB (lf X), 0⟩] (lf X) = ⟨⟨#[]⟩, 2, hsD (encB (lf X))⟩ := by
  have h := ((tp1 hx).1.again (lf_wd X) tn0).2.2
  rw [(tp1 hx).2.1, (tp1 hx).2.2] at h
  exact h
theorem guardA : Tryz.prog.eqGuardType Tryz.prog.depth 43 = false := by kernel_rfl
set_option maxHeartbeats 8000000 in
theorem topNamed_walk {tK tS : TypeId} {w : World} (hk : Kc tK tS w.heap.size w) {X Y : List It.Itm} {AX AY : Option Addr} {nX cX nY cY : Nat} (hX : nX = X.length ∧ nX ≤ 281474976710656 ∧ Ls It.enc 2 w w.heap.size AX X) (hY : nY = Y.length ∧ nY ≤ 281474976710656 ∧ Ls It.enc 2 w w.heap.size AY Y) :
    Calls Tryz.prog 6 #[.slice AX nX cX, .slice AY nY cY] w fun e w' => e = .returned (.bool true) ∧ Below w.heap.size w w' := by
  have HK := Lib.hid (fun W (hb : Below w.heap.size w W) => (hk.below hb).mono hb.size)
  have HNX := Lib.hid (show NdAt w #[.int .u8 1, .slice AX nX cX, .slice none 0 0, .slice none 0 0] (lf X) from ⟨AX, nX, cX, none, 0, 0, none, 0, 0, rfl, hX.1, rfl, rfl, hX.2.1, by decide, by decide, hX.2.2, Ls.nil, Ls.nil⟩)
  have HNY := Lib.hid (show NdAt w #[.int .u8 1, .slice AY nY cY, .slice none 0 0, .slice none 0 0] (lf Y) from ⟨AY, nY, cY, none, 0, 0, none, 0, 0, rfl, hY.1, rfl, rfl, hY.2.1, by decide, by decide, hY.2.2, Ls.nil, Ls.nil⟩)
  have HSM := Lib.hid (fun W (hb : Below w.heap.size w W) => sameT_any X Y AX AY nX cX nY cY w.heap.size w.heap.size hX.1 hY.1 hX.2.1 W hb.size hb.size (hX.2.2.below hb) (hY.2.2.below hb))
  have HLX := Lib.hid hX
  have HLY := Lib.hid hY
  have HB := Lib.hid (Below.refl w.heap.size w)
  clear hk hX hY
  go_enter Tryz.func6, Tryz.ntmps6
  go_wp2_with fail
  have HK0 := HK.out _ HB.out
  refine (Be.begins_any w HK0.r HK0.i).mono ?_
  rintro e w2 ⟨rfl, hb⟩
  clear HK0
  replace HB := Lib.hid (HB.out.trans (hb.mono HB.out.size))
  clear hb
  go_upto_region 4 with fail
  obtain ⟨q1, q2, hb, _⟩ := two_new w2 #[.int .u8 1, .slice AX nX cX, .slice none 0 0, .slice none 0 0] #[.int .u8 1, .slice AY nY cY, .slice none 0 0, .slice none 0 0] 31 31
  replace HB := Lib.hid (HB.out.trans (hb.mono HB.out.size))
  have Rx := Lib.hid q1
  have Ry := Lib.hid q2
  clear q1 q2 hb
  generalize ((w2.alloc (.cells #[.int .u8 1, .slice AX nX cX, .slice none 0 0, .slice none 0 0] 31)).alloc (.cells #[.int .u8 1, .slice AY nY cY, .slice none 0 0, .slice none 0 0] 31)) = w3 at *
  generalize w2.heap.size = gx at *
  have f_Rx_0 : w3.cell? ⟨gx, 0, none⟩ = some (.int .u8 1) := cell_of_row _ _ 0 _ _ _ Rx.out
  have f_Rx_1 : w3.cell? ⟨gx, 1, none⟩ = some (.slice AX nX cX) := cell_of_row _ _ 1 _ _ _ Rx.out
  have f_Rx_2 : w3.cell? ⟨gx, 2, none⟩ = some (.slice none 0 0) := cell_of_row _ _ 2 _ _ _ Rx.out
  have f_Rx_3 : w3.cell? ⟨gx, 3, none⟩ = some (.slice none 0 0) := cell_of_row _ _ 3 _ _ _ Rx.out
  have l_Rx := row_lt Rx.out
  go_wp2_with fail
  refine (encode_any (lf X) (lf_wd X) _ _ (HNX.out.below HB.out)).mono ?_
  rintro e w4 ⟨rfl, hb⟩
  clear f_Rx_0 f_Rx_1 f_Rx_2 f_Rx_3 l_Rx
  replace Rx := Lib.hid ((hb.block _ (row_lt Rx.out)).trans Rx.out)
  replace Ry := Lib.hid ((hb.block _ (row_lt Ry.out)).trans Ry.out)
  replace HB := Lib.hid (HB.out.trans (hb.mono HB.out.size))
  clear hb
  have f_Rx_0 : w4.cell? ⟨gx, 0, none⟩ = some (.int .u8 1) := cell_of_row _ _ 0 _ _ _ Rx.out
  have f_Rx_1 : w4.cell? ⟨gx, 1, none⟩ = some (.slice AX nX cX) := cell_of_row _ _ 1 _ _ _ Rx.out
  have f_Rx_2 : w4.cell? ⟨gx, 2, none⟩ = some (.slice none 0 0) := cell_of_row _ _ 2 _ _ _ Rx.out
  have f_Rx_3 : w4.cell? ⟨gx, 3, none⟩ = some (.slice none 0 0) := cell_of_row _ _ 3 _ _ _ Rx.out
  have l_Rx := row_lt Rx.out
  go_wp2_with fail
  clear f_Rx_0 f_Rx_1 f_Rx_2 f_Rx_3 l_Rx
  have hin0 : HIn w4 none 0 [] := ⟨rfl, Nat.zero_le _, Ls.nil, fun c hc => (by cases hc)⟩
  refine (PutG_any (HK.out _ HB.out) (sz := 16) hin0 (lf X) (lf_wd X) _ (HNX.out.below HB.out)).mono ?_
  rintro e w5 ⟨s1, A1, n1, c1, z1, L1, y1, rfl, hm, hR⟩
  clear hin0
  have HM := Lib.hid (show MkC w w5 (.slice A1 n1 c1) L1 from hm.since HB.out)
  replace Rx := Lib.hid ((hm.2.block _ (row_lt Rx.out)).trans Rx.out)
  replace Ry := Lib.hid ((hm.2.block _ (row_lt Ry.out)).trans Ry.out)
  replace HB := Lib.hid (HB.out.trans (hm.2.mono HB.out.size))
  have HYL := Lib.hid hR.hl
  obtain ⟨hz1, hs1, hcase⟩ := put_first hR
  subst hs1
  clear hm hR
  have HGX := Lib.hid (show gx + 1 < w5.heap.size from row_lt Ry.out)
  have HGW := Lib.hid (show w.heap.size ≤ w5.heap.size from HB.out.size)
  rcases hcase with ⟨hx, rfl, rfl⟩ | ⟨hx, rfl, rfl⟩
  · skip
    have p1 : ((ckN (lf X) : Int) != 0) = true := by rw [bne_iff_ne]; exact hx
    subst hz1
    clear hx
    obtain ⟨y1, hy1⟩ : ∃ y : Kd, kd0 = y := ⟨_, rfl⟩
    rw [hy1] at HYL ⊢
    clear hy1
    obtain ⟨L1, hL1⟩ : ∃ L : List Ce, [] = L := ⟨_, rfl⟩
    rw [hL1] at HM
    obtain ⟨zx, hzx⟩ : ∃ z : Int, ckN (lf X) = z := ⟨_, rfl⟩
    rw [hzx] at p1 ⊢
    clear hzx
    obtain ⟨q1, q2, hb⟩ := two_set w5 #[.int .u32 16, .slice A1 n1 c1] zKd (ecK y1).toArray 25 45
    have HZR := Lib.hid (two_new w5 #[.int .u32 16, .slice A1 n1 c1] zKd 25 45).2.1
    have HZS := Lib.hid (show zKd.size = (ecK y1).toArray.size from (show zKd.size = 34 from rfl).trans (ecK_sz y1))
    replace HM := Lib.hid (show MkC w (((w5.alloc (.cells #[.int .u32 16, .slice A1 n1 c1] 25)).alloc (.cells zKd 45)).setRow (w5.heap.size + 1) (ecK y1).toArray) (.slice A1 n1 c1) L1 from Mk.go HM.out hb)
    replace Rx := Lib.hid ((hb.block _ (row_lt Rx.out)).trans Rx.out)
    replace Ry := Lib.hid ((hb.block _ (row_lt Ry.out)).trans Ry.out)
    replace HB := Lib.hid (HB.out.trans (hb.mono HB.out.size))
    have Ra := Lib.hid q1
    have Rj := Lib.hid q2
    clear q1 q2 hb
    go_wp2_with (refine wpList_store_row rfl 45 (.tmp 10) (.tmp 36) rfl (w5.heap.size + 1) (ecK y1).toArray rfl rfl 45 _ HZR.out (infoKa y1) HZS.out (all_of_one (ecK_one y1)) ?_; change wpList _ _ _ _ _ (((w5.alloc (.cells #[.int .u32 16, .slice A1 n1 c1] 25)).alloc (.cells zKd 45)).setRow (w5.heap.size + 1) (ecK y1).toArray); generalize (((w5.alloc (.cells #[.int .u32 16, .slice A1 n1 c1] 25)).alloc (.cells zKd 45)).setRow (w5.heap.size + 1) (ecK y1).toArray) = w6 at *; clear HZR HZS; generalize w5.heap.size = ga at *; have f_Ry_0 : w6.cell? ⟨gx + 1, 0, none⟩ = some (.int .u8 1) := cell_of_row _ _ 0 _ _ _ Ry.out; have f_Ry_1 : w6.cell? ⟨gx + 1, 1, none⟩ = some (.slice AY nY cY) := cell_of_row _ _ 1 _ _ _ Ry.out; have f_Ry_2 : w6.cell? ⟨gx + 1, 2, none⟩ = some (.slice none 0 0) := cell_of_row _ _ 2 _ _ _ Ry.out; have f_Ry_3 : w6.cell? ⟨gx + 1, 3, none⟩ = some (.slice none 0 0) := cell_of_row _ _ 3 _ _ _ Ry.out; have l_Ry := row_lt Ry.out; have f_Ra_0 : w6.cell? ⟨ga, 0, none⟩ = some (.int .u32 16) := cell_of_row _ _ 0 _ _ _ Ra.out; have f_Ra_1 : w6.cell? ⟨ga, 1, none⟩ = some (.slice A1 n1 c1) := cell_of_row _ _ 1 _ _ _ Ra.out; have l_Ra := row_lt Ra.out)
    clear f_Ry_0 f_Ry_1 f_Ry_2 f_Ry_3 l_Ry f_Ra_0 f_Ra_1 l_Ra
    subst hL1
    have HIN := Lib.hid (HIn.of_mk HM.out (by decide) (fun c hc => (by cases hc)))
    refine (PutG_any (HK.out _ HB.out) (sz := 16) HIN.out (lf Y) (lf_wd Y) _ (HNY.out.below HB.out)).mono ?_
    rintro e w7 ⟨s2, A2, n2, c2, z2, L2, y2, rfl, hm, hR⟩
    clear HIN
    replace HM := Lib.hid (show MkC w w7 (.slice A2 n2 c2) L2 from hm.since HB.out)
    replace Rx := Lib.hid ((hm.2.block _ (row_lt Rx.out)).trans Rx.out)
    replace Ry := Lib.hid ((hm.2.block _ (row_lt Ry.out)).trans Ry.out)
    replace Ra := Lib.hid ((hm.2.block _ (row_lt Ra.out)).trans Ra.out)
    replace Rj := Lib.hid ((hm.2.block _ (row_lt Rj.out)).trans Rj.out)
    replace HB := Lib.hid (HB.out.trans (hm.2.mono HB.out.size))
    have HYK := Lib.hid hR.hl
    clear hm
    clear hR
    have hb : Below w7.heap.size w7 (w7.alloc (.cells zKd 45)) := (Below.refl _ _).alloc (Nat.le_refl _) _
    have HZ0 := Lib.hid (heap_alloc_new w7 (.cells zKd 45))
    have HGK := Lib.hid (show ga + 1 < w7.heap.size from row_lt Rj.out)
    replace HM := Lib.hid (show MkC w (w7.alloc (.cells zKd 45)) (.slice A2 n2 c2) L2 from Mk.go HM.out hb)
    replace Rx := Lib.hid ((hb.block _ (row_lt Rx.out)).trans Rx.out)
    replace Ry := Lib.hid ((hb.block _ (row_lt Ry.out)).trans Ry.out)
    replace Ra := Lib.hid ((hb.block _ (row_lt Ra.out)).trans Ra.out)
    replace Rj := Lib.hid ((hb.block _ (row_lt Rj.out)).trans Rj.out)
    replace HB := Lib.hid (HB.out.trans (hb.mono HB.out.size))
    clear hb
    have r1 := row_set (cs := [.int .u32 16, .slice A1 n1 c1]) (i := 0) (u := .int .u32 s2) Ra.out
    have r2 : (((w7.alloc (.cells zKd 45)).setCell ⟨ga, 0, none⟩ (.int .u32 s2)).setCell ⟨ga, 1, none⟩ (.slice A2 n2 c2)).heap[ga]? = some (.cells #[.int .u32 s2, .slice A2 n2 c2] 25 (0, 0)) := row_set (cs := [.int .u32 s2, .slice A1 n1 c1]) (i := 1) (u := .slice A2 n2 c2) r1
    have hgg := grown_trans (grown_cell (w7.alloc (.cells zKd 45)) ga 0 (.int .u32 s2)) (grown_cell ((w7.alloc (.cells zKd 45)).setCell ⟨ga, 0, none⟩ (.int .u32 s2)) ga 1 (.slice A2 n2 c2))
    have hg2 := grown_row (((w7.alloc (.cells zKd 45)).setCell ⟨ga, 0, none⟩ (.int .u32 s2)).setCell ⟨ga, 1, none⟩ (.slice A2 n2 c2)) w7.heap.size (ecK y2).toArray
    have hz1 := row_other hgg HZ0.out (by have := HGK.out; have := HGX.out;  omega)
    have HZR := Lib.hid hz1
    have HZS := Lib.hid (show zKd.size = (ecK y2).toArray.size from (show zKd.size = 34 from rfl).trans (ecK_sz y2))
    have hb1 := below_of_grown hgg HB.out.size HGW.out
    have hle : w.heap.size ≤ w7.heap.size := by have := HGK.out; have := HGW.out; omega
    have hb2 := below_of_grown hg2 (HB.out.trans hb1).size hle
    have hm1 : MkC w (((w7.alloc (.cells zKd 45)).setCell ⟨ga, 0, none⟩ (.int .u32 s2)).setCell ⟨ga, 1, none⟩ (.slice A2 n2 c2)) (.slice A2 n2 c2) L2 := MkC.two HM.out Ra.out HGW.out
    have ra2 := row_other hg2 r2 (by have := HGK.out; have := HGX.out;  omega)
    have f_Ra_0 : (w7.alloc (.cells zKd 45)).cell? ⟨ga, 0, none⟩ = some (.int .u32 16) := cell_of_row _ _ 0 _ _ _ Ra.out
    have f_Ra_1 : (w7.alloc (.cells zKd 45)).cell? ⟨ga, 1, none⟩ = some (.slice A1 n1 c1) := cell_of_row _ _ 1 _ _ _ Ra.out
    have l_Ra := row_lt Ra.out
    have z0 := frozen_of_row (w7.alloc (.cells zKd 45)) ga 0 _ _ Ra.out
    have z1 := frozen_of_row (w7.alloc (.cells zKd 45)) ga 1 _ _ Ra.out
    have HMN := Lib.hid (hm1.grownQ hg2 hle (Mk.off hm1 hz1 (by decide)))
    have RAN := Lib.hid ra2
    have RxN := Lib.hid (row_other hg2 (row_other hgg Rx.out (by have := HGK.out; have := HGX.out; have := row_lt Rx.out; omega)) (by have := HGK.out; have := HGX.out; have := row_lt Rx.out; omega))
    have RyN := Lib.hid (row_other hg2 (row_other hgg Ry.out (by have := HGK.out; have := HGX.out; have := row_lt Ry.out; omega)) (by have := HGK.out; have := HGX.out; have := row_lt Ry.out; omega))
    have RjN := Lib.hid (row_other hg2 (row_other hgg Rj.out (by have := HGK.out; have := HGX.out; have := row_lt Rj.out; omega)) (by have := HGK.out; have := HGX.out; have := row_lt Rj.out; omega))
    have Rk := Lib.hid (setRow_at (cs := (ecK y2).toArray) hz1)
    have HBN := Lib.hid ((HB.out.trans hb1).trans hb2)
    clear r1 r2 hgg hg2 hz1 hb1 hb2 hm1 ra2 hle HM HB HZ0 Rx Ry Rj
    go_wp2_with (refine wpList_store_row rfl 45 (.tmp 12) (.tmp 43) rfl w7.heap.size (ecK y2).toArray rfl rfl 45 _ HZR.out (infoKa y2) HZS.out (all_of_one (ecK_one y2)) ?_; change wpList _ _ _ _ _ ((((w7.alloc (.cells zKd 45)).setCell ⟨ga, 0, none⟩ (.int .u32 s2)).setCell ⟨ga, 1, none⟩ (.slice A2 n2 c2)).setRow w7.heap.size (ecK y2).toArray); generalize ((((w7.alloc (.cells zKd 45)).setCell ⟨ga, 0, none⟩ (.int .u32 s2)).setCell ⟨ga, 1, none⟩ (.slice A2 n2 c2)).setRow w7.heap.size (ecK y2).toArray) = w8 at *; clear HZR HZS f_Ra_0 f_Ra_1 l_Ra z0 z1 Ra; generalize w7.heap.size = gk at *; have HM := HMN; have HB := HBN; have Ra := RAN; have Rx := RxN; have Ry := RyN; have Rj := RjN; clear HMN HBN RAN RxN RyN RjN; skip)
    go_ret
    exact ⟨rfl, HB.out⟩
  · skip
    rw [hx] at hz1 ⊢
    subst hz1
    have HX0 := Lib.hid hx
    clear hx
    obtain ⟨x0, X0, rfl, hk1, hk2⟩ := trt HX0.out
    obtain ⟨bX, oX, hAX, hbX, hcX⟩ := HLX.out.2.2 0 x0 rfl
    subst hAX
    have HCX := Lib.hid (hcX 0 (.string x0.k) rfl)
    obtain ⟨y1, hy1⟩ : ∃ y : Kd, ⟨⟨#[]⟩, 2, hsD (encB (lf (x0 :: X0)))⟩ = y := ⟨_, rfl⟩
    rw [hy1] at HYL ⊢
    have HY1 := Lib.hid hy1.symm
    clear hy1
    obtain ⟨L1, hL1⟩ : ∃ L : List Ce, [⟨2, encB (lf (x0 :: X0)), 0⟩] = L := ⟨_, rfl⟩
    rw [hL1] at HM
    have HL1 := Lib.hid hL1.symm
    clear hL1
    obtain ⟨q1, q2, hb⟩ := two_set w5 #[.int .u32 16, .slice A1 n1 c1] zKd (ecK y1).toArray 25 45
    have HZR := Lib.hid (two_new w5 #[.int .u32 16, .slice A1 n1 c1] zKd 25 45).2.1
    have HZS := Lib.hid (show zKd.size = (ecK y1).toArray.size from (show zKd.size = 34 from rfl).trans (ecK_sz y1))
    replace HM := Lib.hid (show MkC w (((w5.alloc (.cells #[.int .u32 16, .slice A1 n1 c1] 25)).alloc (.cells zKd 45)).setRow (w5.heap.size + 1) (ecK y1).toArray) (.slice A1 n1 c1) L1 from Mk.go HM.out hb)
    replace Rx := Lib.hid ((hb.block _ (row_lt Rx.out)).trans Rx.out)
    replace Ry := Lib.hid ((hb.block _ (row_lt Ry.out)).trans Ry.out)
    replace HB := Lib.hid (HB.out.trans (hb.mono HB.out.size))
    have Ra := Lib.hid q1
    have Rj := Lib.hid q2
    clear q1 q2 hb
    go_wp2_with (refine wpList_store_row rfl 45 (.tmp 10) (.tmp 36) rfl (w5.heap.size + 1) (ecK y1).toArray rfl rfl 45 _ HZR.out (infoKa y1) HZS.out (all_of_one (ecK_one y1)) ?_; change wpList _ _ _ _ _ (((w5.alloc (.cells #[.int .u32 16, .slice A1 n1 c1] 25)).alloc (.cells zKd 45)).setRow (w5.heap.size + 1) (ecK y1).toArray); generalize (((w5.alloc (.cells #[.int .u32 16, .slice A1 n1 c1] 25)).alloc (.cells zKd 45)).setRow (w5.heap.size + 1) (ecK y1).toArray) = w6 at *; clear HZR HZS; generalize w5.heap.size = ga at *; have f_Ry_0 : w6.cell? ⟨gx + 1, 0, none⟩ = some (.int .u8 1) := cell_of_row _ _ 0 _ _ _ Ry.out; have f_Ry_1 : w6.cell? ⟨gx + 1, 1, none⟩ = some (.slice AY nY cY) := cell_of_row _ _ 1 _ _ _ Ry.out; have f_Ry_2 : w6.cell? ⟨gx + 1, 2, none⟩ = some (.slice none 0 0) := cell_of_row _ _ 2 _ _ _ Ry.out; have f_Ry_3 : w6.cell? ⟨gx + 1, 3, none⟩ = some (.slice none 0 0) := cell_of_row _ _ 3 _ _ _ Ry.out; have l_Ry := row_lt Ry.out; have f_Ra_0 : w6.cell? ⟨ga, 0, none⟩ = some (.int .u32 16) := cell_of_row _ _ 0 _ _ _ Ra.out; have f_Ra_1 : w6.cell? ⟨ga, 1, none⟩ = some (.slice A1 n1 c1) := cell_of_row _ _ 1 _ _ _ Ra.out; have l_Ra := row_lt Ra.out)
    clear f_Ry_0 f_Ry_1 f_Ry_2 f_Ry_3 l_Ry f_Ra_0 f_Ra_1 l_Ra
    have hs1 := (tn1 HX0.out).few
    rw [← HL1.out] at hs1
    have HIN := Lib.hid (HIn.of_mk HM.out hs1.1 hs1.2)
    clear hs1
    refine (PutG_any (HK.out _ HB.out) (sz := 16) HIN.out (lf Y) (lf_wd Y) _ (HNY.out.below HB.out)).mono ?_
    rintro e w7 ⟨s2, A2, n2, c2, z2, L2, y2, rfl, hm, hR⟩
    clear HIN
    replace HM := Lib.hid (show MkC w w7 (.slice A2 n2 c2) L2 from hm.since HB.out)
    replace Rx := Lib.hid ((hm.2.block _ (row_lt Rx.out)).trans Rx.out)
    replace Ry := Lib.hid ((hm.2.block _ (row_lt Ry.out)).trans Ry.out)
    replace Ra := Lib.hid ((hm.2.block _ (row_lt Ra.out)).trans Ra.out)
    replace Rj := Lib.hid ((hm.2.block _ (row_lt Rj.out)).trans Rj.out)
    replace HB := Lib.hid (HB.out.trans (hm.2.mono HB.out.size))
    have HYK := Lib.hid hR.hl
    clear hm
    rw [HL1.out] at hR
    by_cases hy : ckN (lf Y) = 0
    case neg =>
      have p1 : ((z2 : Int) != 0) = true := by rw [bne_iff_ne]; exact put_no hR (tn1 HX0.out) hy
      clear hR hy
      have hb : Below w7.heap.size w7 (w7.alloc (.cells zKd 45)) := (Below.refl _ _).alloc (Nat.le_refl _) _
      have HZ0 := Lib.hid (heap_alloc_new w7 (.cells zKd 45))
      have HGK := Lib.hid (show ga + 1 < w7.heap.size from row_lt Rj.out)
      replace HM := Lib.hid (show MkC w (w7.alloc (.cells zKd 45)) (.slice A2 n2 c2) L2 from Mk.go HM.out hb)
      replace Rx := Lib.hid ((hb.block _ (row_lt Rx.out)).trans Rx.out)
      replace Ry := Lib.hid ((hb.block _ (row_lt Ry.out)).trans Ry.out)
      replace Ra := Lib.hid ((hb.block _ (row_lt Ra.out)).trans Ra.out)
      replace Rj := Lib.hid ((hb.block _ (row_lt Rj.out)).trans Rj.out)
      replace HB := Lib.hid (HB.out.trans (hb.mono HB.out.size))
      clear hb
      have r1 := row_set (cs := [.int .u32 16, .slice A1 n1 c1]) (i := 0) (u := .int .u32 s2) Ra.out
      have r2 : (((w7.alloc (.cells zKd 45)).setCell ⟨ga, 0, none⟩ (.int .u32 s2)).setCell ⟨ga, 1, none⟩ (.slice A2 n2 c2)).heap[ga]? = some (.cells #[.int .u32 s2, .slice A2 n2 c2] 25 (0, 0)) := row_set (cs := [.int .u32 s2, .slice A1 n1 c1]) (i := 1) (u := .slice A2 n2 c2) r1
      have hgg := grown_trans (grown_cell (w7.alloc (.cells zKd 45)) ga 0 (.int .u32 s2)) (grown_cell ((w7.alloc (.cells zKd 45)).setCell ⟨ga, 0, none⟩ (.int .u32 s2)) ga 1 (.slice A2 n2 c2))
      have hg2 := grown_row (((w7.alloc (.cells zKd 45)).setCell ⟨ga, 0, none⟩ (.int .u32 s2)).setCell ⟨ga, 1, none⟩ (.slice A2 n2 c2)) w7.heap.size (ecK y2).toArray
      have hz1 := row_other hgg HZ0.out (by have := HGK.out; have := HGX.out;  omega)
      have HZR := Lib.hid hz1
      have HZS := Lib.hid (show zKd.size = (ecK y2).toArray.size from (show zKd.size = 34 from rfl).trans (ecK_sz y2))
      have hb1 := below_of_grown hgg HB.out.size HGW.out
      have hle : w.heap.size ≤ w7.heap.size := by have := HGK.out; have := HGW.out; omega
      have hb2 := below_of_grown hg2 (HB.out.trans hb1).size hle
      have hm1 : MkC w (((w7.alloc (.cells zKd 45)).setCell ⟨ga, 0, none⟩ (.int .u32 s2)).setCell ⟨ga, 1, none⟩ (.slice A2 n2 c2)) (.slice A2 n2 c2) L2 := MkC.two HM.out Ra.out HGW.out
      have ra2 := row_other hg2 r2 (by have := HGK.out; have := HGX.out;  omega)
      have f_Ra_0 : (w7.alloc (.cells zKd 45)).cell? ⟨ga, 0, none⟩ = some (.int .u32 16) := cell_of_row _ _ 0 _ _ _ Ra.out
      have f_Ra_1 : (w7.alloc (.cells zKd 45)).cell? ⟨ga, 1, none⟩ = some (.slice A1 n1 c1) := cell_of_row _ _ 1 _ _ _ Ra.out
      have l_Ra := row_lt Ra.out
      have z0 := frozen_of_row (w7.alloc (.cells zKd 45)) ga 0 _ _ Ra.out
      have z1 := frozen_of_row (w7.alloc (.cells zKd 45)) ga 1 _ _ Ra.out
      have HMN := Lib.hid (hm1.grownQ hg2 hle (Mk.off hm1 hz1 (by decide)))
      have RAN := Lib.hid ra2
      have RxN := Lib.hid (row_other hg2 (row_other hgg Rx.out (by have := HGK.out; have := HGX.out; have := row_lt Rx.out; omega)) (by have := HGK.out; have := HGX.out; have := row_lt Rx.out; omega))
      have RyN := Lib.hid (row_other hg2 (row_other hgg Ry.out (by have := HGK.out; have := HGX.out; have := row_lt Ry.out; omega)) (by have := HGK.out; have := HGX.out; have := row_lt Ry.out; omega))
      have RjN := Lib.hid (row_other hg2 (row_other hgg Rj.out (by have := HGK.out; have := HGX.out; have := row_lt Rj.out; omega)) (by have := HGK.out; have := HGX.out; have := row_lt Rj.out; omega))
      have Rk := Lib.hid (setRow_at (cs := (ecK y2).toArray) hz1)
      have HBN := Lib.hid ((HB.out.trans hb1).trans hb2)
      clear r1 r2 hgg hg2 hz1 hb1 hb2 hm1 ra2 hle HM HB HZ0 Rx Ry Rj
      go_wp2_with (refine wpList_store_row rfl 45 (.tmp 12) (.tmp 43) rfl w7.heap.size (ecK y2).toArray rfl rfl 45 _ HZR.out (infoKa y2) HZS.out (all_of_one (ecK_one y2)) ?_; change wpList _ _ _ _ _ ((((w7.alloc (.cells zKd 45)).setCell ⟨ga, 0, none⟩ (.int .u32 s2)).setCell ⟨ga, 1, none⟩ (.slice A2 n2 c2)).setRow w7.heap.size (ecK y2).toArray); generalize ((((w7.alloc (.cells zKd 45)).setCell ⟨ga, 0, none⟩ (.int .u32 s2)).setCell ⟨ga, 1, none⟩ (.slice A2 n2 c2)).setRow w7.heap.size (ecK y2).toArray) = w8 at *; clear HZR HZS f_Ra_0 f_Ra_1 l_Ra z0 z1 Ra; generalize w7.heap.size = gk at *; have HM := HMN; have HB := HBN; have Ra := RAN; have Rx := RxN; have Ry := RyN; have Rj := RjN; clear HMN HBN RAN RxN RyN RjN; skip)
      go_ret
      exact ⟨rfl, HB.out⟩
    obtain ⟨hz2, hs2, hL2, hy2⟩ := put_next HX0.out hR hy
    subst hz2 hs2
    have HY0 := Lib.hid hy
    clear hy hR
    obtain ⟨y0, Y0, rfl, hk3, hk4⟩ := trt HY0.out
    obtain ⟨bY, oY, hAY, hbY, hcY⟩ := HLY.out.2.2 0 y0 rfl
    subst hAY
    have HCY := Lib.hid (hcY 0 (.string y0.k) rfl)
    have HLT := Lib.hid (show bX < w.heap.size ∧ bY < w.heap.size from ⟨hbX, hbY⟩)
    have HKS := Lib.hid (show (x0.k.size ≠ 0 ∧ x0.k.size ≤ 48) ∧ y0.k.size ≠ 0 ∧ y0.k.size ≤ 48 from ⟨⟨hk1, hk2⟩, hk3, hk4⟩)
    clear hbX hbY hcX hcY hk1 hk2 hk3 hk4
    have HL2 := Lib.hid hL2
    have HY2 := Lib.hid hy2
    clear hL2 hy2
    have hx1 : (0 : Int) < (nX : Int) := by have := HLX.out.1; rw [List.length_cons] at this; omega
    have hyy1 : (0 : Int) < (nY : Int) := by have := HLY.out.1; rw [List.length_cons] at this; omega
    by_cases he : x0 :: X0 = y0 :: Y0
    · skip
      have HYE := Lib.hid (show y2 = y1 by rw [HY2.out, HY1.out, ← he]; exact put_same HX0.out)
      have HQ2 := Lib.hid (show ((y1.n : Int) == (y2.n : Int)) = true by rw [HYE.out]; exact beq_self_eq_true _)
      have HQ3 := Lib.hid (show eqL eqI (x0 :: X0) (y0 :: Y0) = true from (eqL_iff eqI_iff).2 he)
      have HQ4 := Lib.hid (fun W : World => (eq_kid y1 y2 HYL.out HYK.out W).trans (by rw [show eqK y1 y2 = true from (eqK_iff _ _).2 HYE.out.symm]))
      have HQ1 := Lib.hid (fun W : World => (eq_arr HYL.out (hsD_len (encB (lf (x0 :: X0)))) W).trans (by rw [show y1.hs = hsD (encB (lf (x0 :: X0))) by rw [HY1.out]]))
      have HEQ := Lib.hid he
      clear he
      have hb : Below w7.heap.size w7 (w7.alloc (.cells zKd 45)) := (Below.refl _ _).alloc (Nat.le_refl _) _
      have HZ0 := Lib.hid (heap_alloc_new w7 (.cells zKd 45))
      have HGK := Lib.hid (show ga + 1 < w7.heap.size from row_lt Rj.out)
      replace HM := Lib.hid (show MkC w (w7.alloc (.cells zKd 45)) (.slice A2 n2 c2) L2 from Mk.go HM.out hb)
      replace Rx := Lib.hid ((hb.block _ (row_lt Rx.out)).trans Rx.out)
      replace Ry := Lib.hid ((hb.block _ (row_lt Ry.out)).trans Ry.out)
      replace Ra := Lib.hid ((hb.block _ (row_lt Ra.out)).trans Ra.out)
      replace Rj := Lib.hid ((hb.block _ (row_lt Rj.out)).trans Rj.out)
      replace HB := Lib.hid (HB.out.trans (hb.mono HB.out.size))
      clear hb
      have r1 := row_set (cs := [.int .u32 16, .slice A1 n1 c1]) (i := 0) (u := .int .u32 16) Ra.out
      have r2 : (((w7.alloc (.cells zKd 45)).setCell ⟨ga, 0, none⟩ (.int .u32 16)).setCell ⟨ga, 1, none⟩ (.slice A2 n2 c2)).heap[ga]? = some (.cells #[.int .u32 16, .slice A2 n2 c2] 25 (0, 0)) := row_set (cs := [.int .u32 16, .slice A1 n1 c1]) (i := 1) (u := .slice A2 n2 c2) r1
      have hgg := grown_trans (grown_cell (w7.alloc (.cells zKd 45)) ga 0 (.int .u32 16)) (grown_cell ((w7.alloc (.cells zKd 45)).setCell ⟨ga, 0, none⟩ (.int .u32 16)) ga 1 (.slice A2 n2 c2))
      have hg2 := grown_row (((w7.alloc (.cells zKd 45)).setCell ⟨ga, 0, none⟩ (.int .u32 16)).setCell ⟨ga, 1, none⟩ (.slice A2 n2 c2)) w7.heap.size (ecK y2).toArray
      have hz1 := row_other hgg HZ0.out (by have := HGK.out; have := HGX.out;  omega)
      have HZR := Lib.hid hz1
      have HZS := Lib.hid (show zKd.size = (ecK y2).toArray.size from (show zKd.size = 34 from rfl).trans (ecK_sz y2))
      have hb1 := below_of_grown hgg HB.out.size HGW.out
      have hle : w.heap.size ≤ w7.heap.size := by have := HGK.out; have := HGW.out; omega
      have hb2 := below_of_grown hg2 (HB.out.trans hb1).size hle
      have hm1 : MkC w (((w7.alloc (.cells zKd 45)).setCell ⟨ga, 0, none⟩ (.int .u32 16)).setCell ⟨ga, 1, none⟩ (.slice A2 n2 c2)) (.slice A2 n2 c2) L2 := MkC.two HM.out Ra.out HGW.out
      have ra2 := row_other hg2 r2 (by have := HGK.out; have := HGX.out;  omega)
      have f_Ra_0 : (w7.alloc (.cells zKd 45)).cell? ⟨ga, 0, none⟩ = some (.int .u32 16) := cell_of_row _ _ 0 _ _ _ Ra.out
      have f_Ra_1 : (w7.alloc (.cells zKd 45)).cell? ⟨ga, 1, none⟩ = some (.slice A1 n1 c1) := cell_of_row _ _ 1 _ _ _ Ra.out
      have l_Ra := row_lt Ra.out
      have z0 := frozen_of_row (w7.alloc (.cells zKd 45)) ga 0 _ _ Ra.out
      have z1 := frozen_of_row (w7.alloc (.cells zKd 45)) ga 1 _ _ Ra.out
      have HMN := Lib.hid (hm1.grownQ hg2 hle (Mk.off hm1 hz1 (by decide)))
      have RAN := Lib.hid ra2
      have RxN := Lib.hid (row_other hg2 (row_other hgg Rx.out (by have := HGK.out; have := HGX.out; have := row_lt Rx.out; omega)) (by have := HGK.out; have := HGX.out; have := row_lt Rx.out; omega))
      have RyN := Lib.hid (row_other hg2 (row_other hgg Ry.out (by have := HGK.out; have := HGX.out; have := row_lt Ry.out; omega)) (by have := HGK.out; have := HGX.out; have := row_lt Ry.out; omega))
      have RjN := Lib.hid (row_other hg2 (row_other hgg Rj.out (by have := HGK.out; have := HGX.out; have := row_lt Rj.out; omega)) (by have := HGK.out; have := HGX.out; have := row_lt Rj.out; omega))
      have Rk := Lib.hid (setRow_at (cs := (ecK y2).toArray) hz1)
      have HBN := Lib.hid ((HB.out.trans hb1).trans hb2)
      clear r1 r2 hgg hg2 hz1 hb1 hb2 hm1 ra2 hle HM HB HZ0 Rx Ry Rj
      go_wp2_with (refine wpList_store_row rfl 45 (.tmp 12) (.tmp 43) rfl w7.heap.size (ecK y2).toArray rfl rfl 45 _ HZR.out (infoKa y2) HZS.out (all_of_one (ecK_one y2)) ?_; change wpList _ _ _ _ _ ((((w7.alloc (.cells zKd 45)).setCell ⟨ga, 0, none⟩ (.int .u32 16)).setCell ⟨ga, 1, none⟩ (.slice A2 n2 c2)).setRow w7.heap.size (ecK y2).toArray); generalize ((((w7.alloc (.cells zKd 45)).setCell ⟨ga, 0, none⟩ (.int .u32 16)).setCell ⟨ga, 1, none⟩ (.slice A2 n2 c2)).setRow w7.heap.size (ecK y2).toArray) = w8 at *; clear HZR HZS f_Ra_0 f_Ra_1 l_Ra z0 z1 Ra; generalize w7.heap.size = gk at *; have HM := HMN; have HB := HBN; have Ra := RAN; have Rx := RxN; have Ry := RyN; have Rj := RjN; clear HMN HBN RAN RxN RyN RjN; skip)
      have lj := row_lt Rj.out
      have lk := row_lt Rk.out
      refine wp_region_G (fun w' => Below w8.heap.size w8 w') (by kernel_rfl) (by kernel_rfl) (Below.refl _ _).drew ?_
      refine wpG_val (.pointer (some ⟨ga + 1, 2, none⟩)) rfl (by rfl) (fun w' hSw => by go_simp) ?_
      simp only [List.setIfInBounds_toArray, List.set_cons_zero, List.set_cons_succ]
      refine wpG_val (.agg (u8s y1.hs).toArray) rfl (by rfl) (fun w' hSw => load_run 43 (.tmp 58) rfl (ga + 1) 2 rfl (u8s y1.hs) _ (kid_hash HYL.out ((hSw.block _ lj).trans Rj.out)) Tryz.underlying43 rfl (infoH32 HYL.out)) ?_
      simp only [List.setIfInBounds_toArray, List.set_cons_zero, List.set_cons_succ]
      refine wpG_val (.string (encB (lf (x0 :: X0)))) rfl (by rfl) (fun w' hSw => by go_simp) ?_
      simp only [List.setIfInBounds_toArray, List.set_cons_zero, List.set_cons_succ]
      refine wpG_call (.agg (u8s (hsD (encB (lf (x0 :: X0))))).toArray) 30 #[.string (encB (lf (x0 :: X0)))] rfl (by rfl) (fun w' => by go_simp) (fun w' hSw => (sum_lit (encB (lf (x0 :: X0))) (enc_few HX0.out) w' (HK.out w' (HB.out.trans (hSw.mono HB.out.size))).r (HK.out w' (HB.out.trans (hSw.mono HB.out.size))).i).mono fun e w2 h => by obtain ⟨C, hC, h1, h2⟩ := h; exact ⟨by rw [h1, hC]; rfl, hSw.trans (h2.mono hSw.size)⟩) ?_
      simp only [List.setIfInBounds_toArray, List.set_cons_zero, List.set_cons_succ]
      refine wpG_val (.bool false) rfl (by rfl) (fun w' hSw => by have hq := HQ1.out; have hg := guardA; go_simp) ?_
      simp only [List.setIfInBounds_toArray, List.set_cons_zero, List.set_cons_succ]
      refine wpG_val (.bool false) rfl (by rfl) (fun w' hSw => by go_simp) ?_
      simp only [List.setIfInBounds_toArray, List.set_cons_zero, List.set_cons_succ]
      refine wpG_val (.pointer (some ⟨ga + 1, 1, none⟩)) rfl (by rfl) (fun w' hSw => by go_simp) ?_
      simp only [List.setIfInBounds_toArray, List.set_cons_zero, List.set_cons_succ]
      refine wpG_val (.int .u32 y1.n) rfl (by rfl) (fun w' hSw => by have c : w'.cell? ⟨ga + 1, 1, none⟩ = some (.int .u32 y1.n) := (cell_of_row _ _ 1 _ _ _ ((hSw.block _ lj).trans Rj.out)).trans (by unfold ecK; rfl); go_simp) ?_
      simp only [List.setIfInBounds_toArray, List.set_cons_zero, List.set_cons_succ]
      refine wpG_val (.pointer (some ⟨gk, 1, none⟩)) rfl (by rfl) (fun w' hSw => by go_simp) ?_
      simp only [List.setIfInBounds_toArray, List.set_cons_zero, List.set_cons_succ]
      refine wpG_val (.int .u32 y2.n) rfl (by rfl) (fun w' hSw => by have c : w'.cell? ⟨gk, 1, none⟩ = some (.int .u32 y2.n) := (cell_of_row _ _ 1 _ _ _ ((hSw.block _ lk).trans Rk.out)).trans (by unfold ecK; rfl); go_simp) ?_
      simp only [List.setIfInBounds_toArray, List.set_cons_zero, List.set_cons_succ]
      refine wpG_val (.bool true) rfl (by rfl) (fun w' hSw => by have hn := HQ2.out; go_simp) ?_
      simp only [List.setIfInBounds_toArray, List.set_cons_zero, List.set_cons_succ]
      refine wpG_val (.slice (some ⟨bX, oX, none⟩) nX cX) rfl (by rfl) (fun w' hSw => by go_simp) ?_
      simp only [List.setIfInBounds_toArray, List.set_cons_zero, List.set_cons_succ]
      refine wpG_val (.slice (some ⟨bY, oY, none⟩) nY cY) rfl (by rfl) (fun w' hSw => by go_simp) ?_
      simp only [List.setIfInBounds_toArray, List.set_cons_zero, List.set_cons_succ]
      refine wpG_call (.bool true) 31 #[.slice (some ⟨bX, oX, none⟩) nX cX, .slice (some ⟨bY, oY, none⟩) nY cY] rfl (by rfl) (fun w' => by go_simp) (fun w' hSw => (HSM.out w' (HB.out.trans (hSw.mono HB.out.size))).mono fun e w2 h => ⟨by rw [h.1, HQ3.out], hSw.trans (h.2.mono hSw.size)⟩) ?_
      simp only [List.setIfInBounds_toArray, List.set_cons_zero, List.set_cons_succ]
      refine wpG_val (.bool false) rfl (by rfl) (fun w' hSw => by go_simp) ?_
      simp only [List.setIfInBounds_toArray, List.set_cons_zero, List.set_cons_succ]
      refine wpG_val (.bool false) rfl (by rfl) (fun w' hSw => by go_simp) ?_
      simp only [List.setIfInBounds_toArray, List.set_cons_zero, List.set_cons_succ]
      refine wpG_val (.bool false) rfl (by rfl) (fun w' hSw => by go_simp) ?_
      simp only [List.setIfInBounds_toArray, List.set_cons_zero, List.set_cons_succ]
      refine wpG_val (.agg (ecK y1).toArray) rfl (by rfl) (fun w' hSw => row_runO 45 rfl (ga + 1) rfl _ _ (0, 0) _ ((hSw.block _ lj).trans Rj.out) Tryz.underlying45 rfl (infoKa y1)) ?_
      simp only [List.setIfInBounds_toArray, List.set_cons_zero, List.set_cons_succ]
      refine wpG_val (.agg (ecK y2).toArray) rfl (by rfl) (fun w' hSw => row_runO 45 rfl gk rfl _ _ (0, 0) _ ((hSw.block _ lk).trans Rk.out) Tryz.underlying45 rfl (infoKa y2)) ?_
      simp only [List.setIfInBounds_toArray, List.set_cons_zero, List.set_cons_succ]
      refine wpG_val (.bool true) rfl (by rfl) (fun w' hSw => by have hq := HQ4.out; have hg := guardK; go_simp) ?_
      simp only [List.setIfInBounds_toArray, List.set_cons_zero, List.set_cons_succ]
      refine wpG_val (.slice (some ⟨bX, oX, none⟩) nX cX) rfl (by rfl) (fun w' hSw => by go_simp) ?_
      simp only [List.setIfInBounds_toArray, List.set_cons_zero, List.set_cons_succ]
      refine wpG_val (.slice (some ⟨bY, oY, none⟩) nY cY) rfl (by rfl) (fun w' hSw => by go_simp) ?_
      simp only [List.setIfInBounds_toArray, List.set_cons_zero, List.set_cons_succ]
      refine wpG_call (.bool true) 31 #[.slice (some ⟨bX, oX, none⟩) nX cX, .slice (some ⟨bY, oY, none⟩) nY cY] rfl (by rfl) (fun w' => by go_simp) (fun w' hSw => (HSM.out w' (HB.out.trans (hSw.mono HB.out.size))).mono fun e w2 h => ⟨by rw [h.1, HQ3.out], hSw.trans (h.2.mono hSw.size)⟩) ?_
      simp only [List.setIfInBounds_toArray, List.set_cons_zero, List.set_cons_succ]
      refine wpG_val (.bool false) rfl (by rfl) (fun w' hSw => by go_simp) ?_
      simp only [List.setIfInBounds_toArray, List.set_cons_zero, List.set_cons_succ]
      refine wpG_val (.bool false) rfl (by rfl) (fun w' hSw => by go_simp) ?_
      simp only [List.setIfInBounds_toArray, List.set_cons_zero, List.set_cons_succ]
      refine wpG_nil ?_
      intro w9 hS9
      clear lj lk
      replace HM := Lib.hid (show MkC w w9 (.slice A2 n2 c2) L2 from Mk.go HM.out hS9)
      replace Rx := Lib.hid ((hS9.block _ (row_lt Rx.out)).trans Rx.out)
      replace Ry := Lib.hid ((hS9.block _ (row_lt Ry.out)).trans Ry.out)
      replace Ra := Lib.hid ((hS9.block _ (row_lt Ra.out)).trans Ra.out)
      replace Rj := Lib.hid ((hS9.block _ (row_lt Rj.out)).trans Rj.out)
      replace Rk := Lib.hid ((hS9.block _ (row_lt Rk.out)).trans Rk.out)
      replace HB := Lib.hid (HB.out.trans (hS9.mono HB.out.size))
      clear hS9 HQ1 HQ2 HQ3 HQ4
      go_wp2_with fail
      have HLS := Lib.hid (show Op.bytesLess x0.k.toList y0.k.toList = false by rw [show x0.k = y0.k from congrArg (fun l : List It.Itm => (l.headD x0).k) HEQ.out, ByteArray.toList_eq]; cases h : By.bl y0.k.data.toList y0.k.data.toList; exact h; have := By.bl_asymm _ _ h; rw [h] at this; cases this)
      refine wp_region_G (fun w' => Below w9.heap.size w9 w') (by kernel_rfl) (by kernel_rfl) (Below.refl _ _).drew ?_
      refine wpG_val (.slice (some ⟨bX, oX, none⟩) nX cX) rfl (by rfl) (fun w' hSw => by go_simp) ?_
      simp only [List.setIfInBounds_toArray, List.set_cons_zero, List.set_cons_succ]
      refine wpG_val (.pointer (some ⟨bX, oX, none⟩)) rfl (by rfl) (fun w' hSw => by go_simp <;> (intro h0; exfalso; omega)) ?_
      simp only [List.setIfInBounds_toArray, List.set_cons_zero, List.set_cons_succ]
      refine wpG_val (.pointer (some ⟨bX, oX, none⟩)) rfl (by rfl) (fun w' hSw => by go_simp) ?_
      simp only [List.setIfInBounds_toArray, List.set_cons_zero, List.set_cons_succ]
      refine wpG_val (.string x0.k) rfl (by rfl) (fun w' hSw => by have hb := HB.out.trans (hSw.mono HB.out.size); have c : w'.cell? ⟨bX, oX, none⟩ = some (.string x0.k) := (hb.cell (p := ⟨bX, _, none⟩) HLT.out.1).trans HCX.out; go_simp) ?_
      simp only [List.setIfInBounds_toArray, List.set_cons_zero, List.set_cons_succ]
      refine wpG_val (.slice (some ⟨bY, oY, none⟩) nY cY) rfl (by rfl) (fun w' hSw => by go_simp) ?_
      simp only [List.setIfInBounds_toArray, List.set_cons_zero, List.set_cons_succ]
      refine wpG_val (.pointer (some ⟨bY, oY, none⟩)) rfl (by rfl) (fun w' hSw => by go_simp <;> (intro h0; exfalso; omega)) ?_
      simp only [List.setIfInBounds_toArray, List.set_cons_zero, List.set_cons_succ]
      refine wpG_val (.pointer (some ⟨bY, oY, none⟩)) rfl (by rfl) (fun w' hSw => by go_simp) ?_
      simp only [List.setIfInBounds_toArray, List.set_cons_zero, List.set_cons_succ]
      refine wpG_val (.string y0.k) rfl (by rfl) (fun w' hSw => by have hb := HB.out.trans (hSw.mono HB.out.size); have c : w'.cell? ⟨bY, oY, none⟩ = some (.string y0.k) := (hb.cell (p := ⟨bY, _, none⟩) HLT.out.2).trans HCY.out; go_simp) ?_
      simp only [List.setIfInBounds_toArray, List.set_cons_zero, List.set_cons_succ]
      refine wpG_val (.bool true) rfl (by rfl) (fun w' hSw => by have h1 := HLS.out; go_simp) ?_
      simp only [List.setIfInBounds_toArray, List.set_cons_zero, List.set_cons_succ]
      refine wpG_nil ?_
      intro wa hSa
      replace HM := Lib.hid (show MkC w wa (.slice A2 n2 c2) L2 from Mk.go HM.out hSa)
      replace Rx := Lib.hid ((hSa.block _ (row_lt Rx.out)).trans Rx.out)
      replace Ry := Lib.hid ((hSa.block _ (row_lt Ry.out)).trans Ry.out)
      replace Ra := Lib.hid ((hSa.block _ (row_lt Ra.out)).trans Ra.out)
      replace Rj := Lib.hid ((hSa.block _ (row_lt Rj.out)).trans Rj.out)
      replace Rk := Lib.hid ((hSa.block _ (row_lt Rk.out)).trans Rk.out)
      replace HB := Lib.hid (HB.out.trans (hSa.mono HB.out.size))
      clear hSa
      go_wp2_with fail
      go_ret
      exact ⟨rfl, HB.out⟩
    · skip
      have HPN := Lib.hid (tp2 HX0.out HY0.out he)
      have HYE := Lib.hid (show y2 = ⟨⟨#[]⟩, 3, hsD (encB (lf (y0 :: Y0)))⟩ by rw [HY2.out]; exact HPN.out.2.2)
      have HQ2 := Lib.hid (show ((y1.n : Int) == (y2.n : Int)) = false by rw [HYE.out, HY1.out]; rfl)
      have HQ3 := Lib.hid (show eqL eqI (x0 :: X0) (y0 :: Y0) = false from eqL_no eqI_iff he)
      have HQ4 := Lib.hid (fun W : World => (eq_kid y1 y2 HYL.out HYK.out W).trans (by rw [show eqK y1 y2 = false from Bool.eq_false_iff.2 fun h => by have h2 := congrArg Kd.n ((eqK_iff _ _).1 h); rw [HYE.out, HY1.out] at h2; cases h2]))
      have HQ1 := Lib.hid (fun W : World => (eq_arr HYL.out (hsD_len (encB (lf (x0 :: X0)))) W).trans (by rw [show y1.hs = hsD (encB (lf (x0 :: X0))) by rw [HY1.out]]))
      have HEQ := Lib.hid he
      clear he
      have hb : Below w7.heap.size w7 (w7.alloc (.cells zKd 45)) := (Below.refl _ _).alloc (Nat.le_refl _) _
      have HZ0 := Lib.hid (heap_alloc_new w7 (.cells zKd 45))
      have HGK := Lib.hid (show ga + 1 < w7.heap.size from row_lt Rj.out)
      replace HM := Lib.hid (show MkC w (w7.alloc (.cells zKd 45)) (.slice A2 n2 c2) L2 from Mk.go HM.out hb)
      replace Rx := Lib.hid ((hb.block _ (row_lt Rx.out)).trans Rx.out)
      replace Ry := Lib.hid ((hb.block _ (row_lt Ry.out)).trans Ry.out)
      replace Ra := Lib.hid ((hb.block _ (row_lt Ra.out)).trans Ra.out)
      replace Rj := Lib.hid ((hb.block _ (row_lt Rj.out)).trans Rj.out)
      replace HB := Lib.hid (HB.out.trans (hb.mono HB.out.size))
      clear hb
      have r1 := row_set (cs := [.int .u32 16, .slice A1 n1 c1]) (i := 0) (u := .int .u32 16) Ra.out
      have r2 : (((w7.alloc (.cells zKd 45)).setCell ⟨ga, 0, none⟩ (.int .u32 16)).setCell ⟨ga, 1, none⟩ (.slice A2 n2 c2)).heap[ga]? = some (.cells #[.int .u32 16, .slice A2 n2 c2] 25 (0, 0)) := row_set (cs := [.int .u32 16, .slice A1 n1 c1]) (i := 1) (u := .slice A2 n2 c2) r1
      have hgg := grown_trans (grown_cell (w7.alloc (.cells zKd 45)) ga 0 (.int .u32 16)) (grown_cell ((w7.alloc (.cells zKd 45)).setCell ⟨ga, 0, none⟩ (.int .u32 16)) ga 1 (.slice A2 n2 c2))
      have hg2 := grown_row (((w7.alloc (.cells zKd 45)).setCell ⟨ga, 0, none⟩ (.int .u32 16)).setCell ⟨ga, 1, none⟩ (.slice A2 n2 c2)) w7.heap.size (ecK y2).toArray
      have hz1 := row_other hgg HZ0.out (by have := HGK.out; have := HGX.out;  omega)
      have HZR := Lib.hid hz1
      have HZS := Lib.hid (show zKd.size = (ecK y2).toArray.size from (show zKd.size = 34 from rfl).trans (ecK_sz y2))
      have hb1 := below_of_grown hgg HB.out.size HGW.out
      have hle : w.heap.size ≤ w7.heap.size := by have := HGK.out; have := HGW.out; omega
      have hb2 := below_of_grown hg2 (HB.out.trans hb1).size hle
      have hm1 : MkC w (((w7.alloc (.cells zKd 45)).setCell ⟨ga, 0, none⟩ (.int .u32 16)).setCell ⟨ga, 1, none⟩ (.slice A2 n2 c2)) (.slice A2 n2 c2) L2 := MkC.two HM.out Ra.out HGW.out
      have ra2 := row_other hg2 r2 (by have := HGK.out; have := HGX.out;  omega)
      have f_Ra_0 : (w7.alloc (.cells zKd 45)).cell? ⟨ga, 0, none⟩ = some (.int .u32 16) := cell_of_row _ _ 0 _ _ _ Ra.out
      have f_Ra_1 : (w7.alloc (.cells zKd 45)).cell? ⟨ga, 1, none⟩ = some (.slice A1 n1 c1) := cell_of_row _ _ 1 _ _ _ Ra.out
      have l_Ra := row_lt Ra.out
      have z0 := frozen_of_row (w7.alloc (.cells zKd 45)) ga 0 _ _ Ra.out
      have z1 := frozen_of_row (w7.alloc (.cells zKd 45)) ga 1 _ _ Ra.out
      have HMN := Lib.hid (hm1.grownQ hg2 hle (Mk.off hm1 hz1 (by decide)))
      have RAN := Lib.hid ra2
      have RxN := Lib.hid (row_other hg2 (row_other hgg Rx.out (by have := HGK.out; have := HGX.out; have := row_lt Rx.out; omega)) (by have := HGK.out; have := HGX.out; have := row_lt Rx.out; omega))
      have RyN := Lib.hid (row_other hg2 (row_other hgg Ry.out (by have := HGK.out; have := HGX.out; have := row_lt Ry.out; omega)) (by have := HGK.out; have := HGX.out; have := row_lt Ry.out; omega))
      have RjN := Lib.hid (row_other hg2 (row_other hgg Rj.out (by have := HGK.out; have := HGX.out; have := row_lt Rj.out; omega)) (by have := HGK.out; have := HGX.out; have := row_lt Rj.out; omega))
      have Rk := Lib.hid (setRow_at (cs := (ecK y2).toArray) hz1)
      have HBN := Lib.hid ((HB.out.trans hb1).trans hb2)
      clear r1 r2 hgg hg2 hz1 hb1 hb2 hm1 ra2 hle HM HB HZ0 Rx Ry Rj
      go_wp2_with (refine wpList_store_row rfl 45 (.tmp 12) (.tmp 43) rfl w7.heap.size (ecK y2).toArray rfl rfl 45 _ HZR.out (infoKa y2) HZS.out (all_of_one (ecK_one y2)) ?_; change wpList _ _ _ _ _ ((((w7.alloc (.cells zKd 45)).setCell ⟨ga, 0, none⟩ (.int .u32 16)).setCell ⟨ga, 1, none⟩ (.slice A2 n2 c2)).setRow w7.heap.size (ecK y2).toArray); generalize ((((w7.alloc (.cells zKd 45)).setCell ⟨ga, 0, none⟩ (.int .u32 16)).setCell ⟨ga, 1, none⟩ (.slice A2 n2 c2)).setRow w7.heap.size (ecK y2).toArray) = w8 at *; clear HZR HZS f_Ra_0 f_Ra_1 l_Ra z0 z1 Ra; generalize w7.heap.size = gk at *; have HM := HMN; have HB := HBN; have Ra := RAN; have Rx := RxN; have Ry := RyN; have Rj := RjN; clear HMN HBN RAN RxN RyN RjN; skip)
      have lj := row_lt Rj.out
      have lk := row_lt Rk.out
      refine wp_region_G (fun w' => Below w8.heap.size w8 w') (by kernel_rfl) (by kernel_rfl) (Below.refl _ _).drew ?_
      refine wpG_val (.pointer (some ⟨ga + 1, 2, none⟩)) rfl (by rfl) (fun w' hSw => by go_simp) ?_
      simp only [List.setIfInBounds_toArray, List.set_cons_zero, List.set_cons_succ]
      refine wpG_val (.agg (u8s y1.hs).toArray) rfl (by rfl) (fun w' hSw => load_run 43 (.tmp 58) rfl (ga + 1) 2 rfl (u8s y1.hs) _ (kid_hash HYL.out ((hSw.block _ lj).trans Rj.out)) Tryz.underlying43 rfl (infoH32 HYL.out)) ?_
      simp only [List.setIfInBounds_toArray, List.set_cons_zero, List.set_cons_succ]
      refine wpG_val (.string (encB (lf (x0 :: X0)))) rfl (by rfl) (fun w' hSw => by go_simp) ?_
      simp only [List.setIfInBounds_toArray, List.set_cons_zero, List.set_cons_succ]
      refine wpG_call (.agg (u8s (hsD (encB (lf (x0 :: X0))))).toArray) 30 #[.string (encB (lf (x0 :: X0)))] rfl (by rfl) (fun w' => by go_simp) (fun w' hSw => (sum_lit (encB (lf (x0 :: X0))) (enc_few HX0.out) w' (HK.out w' (HB.out.trans (hSw.mono HB.out.size))).r (HK.out w' (HB.out.trans (hSw.mono HB.out.size))).i).mono fun e w2 h => by obtain ⟨C, hC, h1, h2⟩ := h; exact ⟨by rw [h1, hC]; rfl, hSw.trans (h2.mono hSw.size)⟩) ?_
      simp only [List.setIfInBounds_toArray, List.set_cons_zero, List.set_cons_succ]
      refine wpG_val (.bool false) rfl (by rfl) (fun w' hSw => by have hq := HQ1.out; have hg := guardA; go_simp) ?_
      simp only [List.setIfInBounds_toArray, List.set_cons_zero, List.set_cons_succ]
      refine wpG_val (.bool false) rfl (by rfl) (fun w' hSw => by go_simp) ?_
      simp only [List.setIfInBounds_toArray, List.set_cons_zero, List.set_cons_succ]
      refine wpG_val (.pointer (some ⟨ga + 1, 1, none⟩)) rfl (by rfl) (fun w' hSw => by go_simp) ?_
      simp only [List.setIfInBounds_toArray, List.set_cons_zero, List.set_cons_succ]
      refine wpG_val (.int .u32 y1.n) rfl (by rfl) (fun w' hSw => by have c : w'.cell? ⟨ga + 1, 1, none⟩ = some (.int .u32 y1.n) := (cell_of_row _ _ 1 _ _ _ ((hSw.block _ lj).trans Rj.out)).trans (by unfold ecK; rfl); go_simp) ?_
      simp only [List.setIfInBounds_toArray, List.set_cons_zero, List.set_cons_succ]
      refine wpG_val (.pointer (some ⟨gk, 1, none⟩)) rfl (by rfl) (fun w' hSw => by go_simp) ?_
      simp only [List.setIfInBounds_toArray, List.set_cons_zero, List.set_cons_succ]
      refine wpG_val (.int .u32 y2.n) rfl (by rfl) (fun w' hSw => by have c : w'.cell? ⟨gk, 1, none⟩ = some (.int .u32 y2.n) := (cell_of_row _ _ 1 _ _ _ ((hSw.block _ lk).trans Rk.out)).trans (by unfold ecK; rfl); go_simp) ?_
      simp only [List.setIfInBounds_toArray, List.set_cons_zero, List.set_cons_succ]
      refine wpG_val (.bool false) rfl (by rfl) (fun w' hSw => by have hn := HQ2.out; go_simp) ?_
      simp only [List.setIfInBounds_toArray, List.set_cons_zero, List.set_cons_succ]
      refine wpG_val (.slice (some ⟨bX, oX, none⟩) nX cX) rfl (by rfl) (fun w' hSw => by go_simp) ?_
      simp only [List.setIfInBounds_toArray, List.set_cons_zero, List.set_cons_succ]
      refine wpG_val (.slice (some ⟨bY, oY, none⟩) nY cY) rfl (by rfl) (fun w' hSw => by go_simp) ?_
      simp only [List.setIfInBounds_toArray, List.set_cons_zero, List.set_cons_succ]
      refine wpG_call (.bool false) 31 #[.slice (some ⟨bX, oX, none⟩) nX cX, .slice (some ⟨bY, oY, none⟩) nY cY] rfl (by rfl) (fun w' => by go_simp) (fun w' hSw => (HSM.out w' (HB.out.trans (hSw.mono HB.out.size))).mono fun e w2 h => ⟨by rw [h.1, HQ3.out], hSw.trans (h.2.mono hSw.size)⟩) ?_
      simp only [List.setIfInBounds_toArray, List.set_cons_zero, List.set_cons_succ]
      refine wpG_val (.bool false) rfl (by rfl) (fun w' hSw => by go_simp) ?_
      simp only [List.setIfInBounds_toArray, List.set_cons_zero, List.set_cons_succ]
      refine wpG_val (.bool false) rfl (by rfl) (fun w' hSw => by go_simp) ?_
      simp only [List.setIfInBounds_toArray, List.set_cons_zero, List.set_cons_succ]
      refine wpG_val (.bool false) rfl (by rfl) (fun w' hSw => by go_simp) ?_
      simp only [List.setIfInBounds_toArray, List.set_cons_zero, List.set_cons_succ]
      refine wpG_val (.agg (ecK y1).toArray) rfl (by rfl) (fun w' hSw => row_runO 45 rfl (ga + 1) rfl _ _ (0, 0) _ ((hSw.block _ lj).trans Rj.out) Tryz.underlying45 rfl (infoKa y1)) ?_
      simp only [List.setIfInBounds_toArray, List.set_cons_zero, List.set_cons_succ]
      refine wpG_val (.agg (ecK y2).toArray) rfl (by rfl) (fun w' hSw => row_runO 45 rfl gk rfl _ _ (0, 0) _ ((hSw.block _ lk).trans Rk.out) Tryz.underlying45 rfl (infoKa y2)) ?_
      simp only [List.setIfInBounds_toArray, List.set_cons_zero, List.set_cons_succ]
      refine wpG_val (.bool false) rfl (by rfl) (fun w' hSw => by have hq := HQ4.out; have hg := guardK; go_simp) ?_
      simp only [List.setIfInBounds_toArray, List.set_cons_zero, List.set_cons_succ]
      refine wpG_val (.slice (some ⟨bX, oX, none⟩) nX cX) rfl (by rfl) (fun w' hSw => by go_simp) ?_
      simp only [List.setIfInBounds_toArray, List.set_cons_zero, List.set_cons_succ]
      refine wpG_val (.slice (some ⟨bY, oY, none⟩) nY cY) rfl (by rfl) (fun w' hSw => by go_simp) ?_
      simp only [List.setIfInBounds_toArray, List.set_cons_zero, List.set_cons_succ]
      refine wpG_call (.bool false) 31 #[.slice (some ⟨bX, oX, none⟩) nX cX, .slice (some ⟨bY, oY, none⟩) nY cY] rfl (by rfl) (fun w' => by go_simp) (fun w' hSw => (HSM.out w' (HB.out.trans (hSw.mono HB.out.size))).mono fun e w2 h => ⟨by rw [h.1, HQ3.out], hSw.trans (h.2.mono hSw.size)⟩) ?_
      simp only [List.setIfInBounds_toArray, List.set_cons_zero, List.set_cons_succ]
      refine wpG_val (.bool false) rfl (by rfl) (fun w' hSw => by go_simp) ?_
      simp only [List.setIfInBounds_toArray, List.set_cons_zero, List.set_cons_succ]
      refine wpG_val (.bool false) rfl (by rfl) (fun w' hSw => by go_simp) ?_
      simp only [List.setIfInBounds_toArray, List.set_cons_zero, List.set_cons_succ]
      refine wpG_nil ?_
      intro w9 hS9
      clear lj lk
      replace HM := Lib.hid (show MkC w w9 (.slice A2 n2 c2) L2 from Mk.go HM.out hS9)
      replace Rx := Lib.hid ((hS9.block _ (row_lt Rx.out)).trans Rx.out)
      replace Ry := Lib.hid ((hS9.block _ (row_lt Ry.out)).trans Ry.out)
      replace Ra := Lib.hid ((hS9.block _ (row_lt Ra.out)).trans Ra.out)
      replace Rj := Lib.hid ((hS9.block _ (row_lt Rj.out)).trans Rj.out)
      replace Rk := Lib.hid ((hS9.block _ (row_lt Rk.out)).trans Rk.out)
      replace HB := Lib.hid (HB.out.trans (hS9.mono HB.out.size))
      clear hS9 HQ1 HQ2 HQ3 HQ4
      go_wp2_with fail
      cases hbl : By.bl x0.k.data.toList y0.k.data.toList
      · have HLS := Lib.hid (show Op.bytesLess x0.k.toList y0.k.toList = false by rw [ByteArray.toList_eq, ByteArray.toList_eq]; exact hbl)
        refine wp_region_G (fun w' => Below w9.heap.size w9 w') (by kernel_rfl) (by kernel_rfl) (Below.refl _ _).drew ?_
        refine wpG_val (.slice (some ⟨bX, oX, none⟩) nX cX) rfl (by rfl) (fun w' hSw => by go_simp) ?_
        simp only [List.setIfInBounds_toArray, List.set_cons_zero, List.set_cons_succ]
        refine wpG_val (.pointer (some ⟨bX, oX, none⟩)) rfl (by rfl) (fun w' hSw => by go_simp <;> (intro h0; exfalso; omega)) ?_
        simp only [List.setIfInBounds_toArray, List.set_cons_zero, List.set_cons_succ]
        refine wpG_val (.pointer (some ⟨bX, oX, none⟩)) rfl (by rfl) (fun w' hSw => by go_simp) ?_
        simp only [List.setIfInBounds_toArray, List.set_cons_zero, List.set_cons_succ]
        refine wpG_val (.string x0.k) rfl (by rfl) (fun w' hSw => by have hb := HB.out.trans (hSw.mono HB.out.size); have c : w'.cell? ⟨bX, oX, none⟩ = some (.string x0.k) := (hb.cell (p := ⟨bX, _, none⟩) HLT.out.1).trans HCX.out; go_simp) ?_
        simp only [List.setIfInBounds_toArray, List.set_cons_zero, List.set_cons_succ]
        refine wpG_val (.slice (some ⟨bY, oY, none⟩) nY cY) rfl (by rfl) (fun w' hSw => by go_simp) ?_
        simp only [List.setIfInBounds_toArray, List.set_cons_zero, List.set_cons_succ]
        refine wpG_val (.pointer (some ⟨bY, oY, none⟩)) rfl (by rfl) (fun w' hSw => by go_simp <;> (intro h0; exfalso; omega)) ?_
        simp only [List.setIfInBounds_toArray, List.set_cons_zero, List.set_cons_succ]
        refine wpG_val (.pointer (some ⟨bY, oY, none⟩)) rfl (by rfl) (fun w' hSw => by go_simp) ?_
        simp only [List.setIfInBounds_toArray, List.set_cons_zero, List.set_cons_succ]
        refine wpG_val (.string y0.k) rfl (by rfl) (fun w' hSw => by have hb := HB.out.trans (hSw.mono HB.out.size); have c : w'.cell? ⟨bY, oY, none⟩ = some (.string y0.k) := (hb.cell (p := ⟨bY, _, none⟩) HLT.out.2).trans HCY.out; go_simp) ?_
        simp only [List.setIfInBounds_toArray, List.set_cons_zero, List.set_cons_succ]
        refine wpG_val (.bool true) rfl (by rfl) (fun w' hSw => by have h1 := HLS.out; go_simp) ?_
        simp only [List.setIfInBounds_toArray, List.set_cons_zero, List.set_cons_succ]
        refine wpG_nil ?_
        intro wa hSa
        replace HM := Lib.hid (show MkC w wa (.slice A2 n2 c2) L2 from Mk.go HM.out hSa)
        replace Rx := Lib.hid ((hSa.block _ (row_lt Rx.out)).trans Rx.out)
        replace Ry := Lib.hid ((hSa.block _ (row_lt Ry.out)).trans Ry.out)
        replace Ra := Lib.hid ((hSa.block _ (row_lt Ra.out)).trans Ra.out)
        replace Rj := Lib.hid ((hSa.block _ (row_lt Rj.out)).trans Rj.out)
        replace Rk := Lib.hid ((hSa.block _ (row_lt Rk.out)).trans Rk.out)
        replace HB := Lib.hid (HB.out.trans (hSa.mono HB.out.size))
        clear hSa
        go_wp2_with fail
        go_ret
        exact ⟨rfl, HB.out⟩
      · have HLS := Lib.hid (show Op.bytesLess x0.k.toList y0.k.toList = true by rw [ByteArray.toList_eq, ByteArray.toList_eq]; exact hbl)
        refine wp_region_G (fun w' => Below w9.heap.size w9 w') (by kernel_rfl) (by kernel_rfl) (Below.refl _ _).drew ?_
        refine wpG_val (.slice (some ⟨bX, oX, none⟩) nX cX) rfl (by rfl) (fun w' hSw => by go_simp) ?_
        simp only [List.setIfInBounds_toArray, List.set_cons_zero, List.set_cons_succ]
        refine wpG_val (.pointer (some ⟨bX, oX, none⟩)) rfl (by rfl) (fun w' hSw => by go_simp <;> (intro h0; exfalso; omega)) ?_
        simp only [List.setIfInBounds_toArray, List.set_cons_zero, List.set_cons_succ]
        refine wpG_val (.pointer (some ⟨bX, oX, none⟩)) rfl (by rfl) (fun w' hSw => by go_simp) ?_
        simp only [List.setIfInBounds_toArray, List.set_cons_zero, List.set_cons_succ]
        refine wpG_val (.string x0.k) rfl (by rfl) (fun w' hSw => by have hb := HB.out.trans (hSw.mono HB.out.size); have c : w'.cell? ⟨bX, oX, none⟩ = some (.string x0.k) := (hb.cell (p := ⟨bX, _, none⟩) HLT.out.1).trans HCX.out; go_simp) ?_
        simp only [List.setIfInBounds_toArray, List.set_cons_zero, List.set_cons_succ]
        refine wpG_val (.slice (some ⟨bY, oY, none⟩) nY cY) rfl (by rfl) (fun w' hSw => by go_simp) ?_
        simp only [List.setIfInBounds_toArray, List.set_cons_zero, List.set_cons_succ]
        refine wpG_val (.pointer (some ⟨bY, oY, none⟩)) rfl (by rfl) (fun w' hSw => by go_simp <;> (intro h0; exfalso; omega)) ?_
        simp only [List.setIfInBounds_toArray, List.set_cons_zero, List.set_cons_succ]
        refine wpG_val (.pointer (some ⟨bY, oY, none⟩)) rfl (by rfl) (fun w' hSw => by go_simp) ?_
        simp only [List.setIfInBounds_toArray, List.set_cons_zero, List.set_cons_succ]
        refine wpG_val (.string y0.k) rfl (by rfl) (fun w' hSw => by have hb := HB.out.trans (hSw.mono HB.out.size); have c : w'.cell? ⟨bY, oY, none⟩ = some (.string y0.k) := (hb.cell (p := ⟨bY, _, none⟩) HLT.out.2).trans HCY.out; go_simp) ?_
        simp only [List.setIfInBounds_toArray, List.set_cons_zero, List.set_cons_succ]
        refine wpG_val (.bool false) rfl (by rfl) (fun w' hSw => by have h1 := HLS.out; go_simp) ?_
        simp only [List.setIfInBounds_toArray, List.set_cons_zero, List.set_cons_succ]
        refine wpG_nil ?_
        intro wa hSa
        replace HM := Lib.hid (show MkC w wa (.slice A2 n2 c2) L2 from Mk.go HM.out hSa)
        replace Rx := Lib.hid ((hSa.block _ (row_lt Rx.out)).trans Rx.out)
        replace Ry := Lib.hid ((hSa.block _ (row_lt Ry.out)).trans Ry.out)
        replace Ra := Lib.hid ((hSa.block _ (row_lt Ra.out)).trans Ra.out)
        replace Rj := Lib.hid ((hSa.block _ (row_lt Rj.out)).trans Rj.out)
        replace Rk := Lib.hid ((hSa.block _ (row_lt Rk.out)).trans Rk.out)
        replace HB := Lib.hid (HB.out.trans (hSa.mono HB.out.size))
        clear hSa
        go_wp2_with fail
        have HBA := HB
        have hdr : Below wa.heap.size wa wa.drew := (Below.refl _ _).drew
        refine wp_region_X (fun _ (w' : World) => w'.cell? ⟨bX, oX, none⟩ = some (.string x0.k) ∧ w'.cell? ⟨bY, oY, none⟩ = some (.string y0.k)) (by kernel_rfl) ?_
        replace HM := Lib.hid (show MkC w wa.drew (.slice A2 n2 c2) L2 from Mk.go HM.out hdr)
        replace Rx := Lib.hid ((hdr.block _ (row_lt Rx.out)).trans Rx.out)
        replace Ry := Lib.hid ((hdr.block _ (row_lt Ry.out)).trans Ry.out)
        replace Ra := Lib.hid ((hdr.block _ (row_lt Ra.out)).trans Ra.out)
        replace Rj := Lib.hid ((hdr.block _ (row_lt Rj.out)).trans Rj.out)
        replace Rk := Lib.hid ((hdr.block _ (row_lt Rk.out)).trans Rk.out)
        replace HB := Lib.hid (HB.out.trans (hdr.mono HB.out.size))
        generalize wa.drew = v0 at *
        have hcc : v0.cell? ⟨bX, oX, none⟩ = some (.string x0.k) ∧ v0.cell? ⟨bY, oY, none⟩ = some (.string y0.k) := ⟨(HB.out.cell (p := ⟨bX, _, none⟩) HLT.out.1).trans HCX.out, (HB.out.cell (p := ⟨bY, _, none⟩) HLT.out.2).trans HCY.out⟩
        refine take_X 0 92 (.slice (some ⟨bX, oX, none⟩) nX cX) rfl (by rfl) (by kernel_rfl) (by kernel_rfl) (by kernel_rfl) (by kernel_rfl) (fun _ _ _ h => h) (fun _ _ h => h) (Or.inl ⟨by rfl, fun w' _ => by go_simp⟩) hcc ?_
        simp only [List.setIfInBounds_toArray, List.set_cons_zero, List.set_cons_succ]
        refine take_X 1 93 (.pointer (some ⟨bX, oX, none⟩)) rfl (by rfl) (by kernel_rfl) (by kernel_rfl) (by kernel_rfl) (by kernel_rfl) (fun _ _ _ h => h) (fun _ _ h => h) (Or.inl ⟨by rfl, fun w' _ => by go_simp <;> (intro h0; exfalso; omega)⟩) hcc ?_
        simp only [List.setIfInBounds_toArray, List.set_cons_zero, List.set_cons_succ]
        refine take_X 2 94 (.pointer (some ⟨bX, oX, none⟩)) rfl (by rfl) (by kernel_rfl) (by kernel_rfl) (by kernel_rfl) (by kernel_rfl) (fun _ _ _ h => h) (fun _ _ h => h) (Or.inl ⟨by rfl, fun w' _ => by go_simp⟩) hcc ?_
        simp only [List.setIfInBounds_toArray, List.set_cons_zero, List.set_cons_succ]
        refine take_X 3 95 (.string x0.k) rfl (by rfl) (by kernel_rfl) (by kernel_rfl) (by kernel_rfl) (by kernel_rfl) (fun _ _ _ h => h) (fun _ _ h => h) (Or.inl ⟨by rfl, fun w' hB => by obtain ⟨_, _, _, hS⟩ := hB; have c := hS.1; go_simp⟩) hcc ?_
        simp only [List.setIfInBounds_toArray, List.set_cons_zero, List.set_cons_succ]
        refine take_X 4 96 (.slice (some ⟨bY, oY, none⟩) nY cY) rfl (by rfl) (by kernel_rfl) (by kernel_rfl) (by kernel_rfl) (by kernel_rfl) (fun _ _ _ h => h) (fun _ _ h => h) (Or.inl ⟨by rfl, fun w' _ => by go_simp⟩) hcc ?_
        simp only [List.setIfInBounds_toArray, List.set_cons_zero, List.set_cons_succ]
        refine take_X 5 97 (.pointer (some ⟨bY, oY, none⟩)) rfl (by rfl) (by kernel_rfl) (by kernel_rfl) (by kernel_rfl) (by kernel_rfl) (fun _ _ _ h => h) (fun _ _ h => h) (Or.inl ⟨by rfl, fun w' _ => by go_simp <;> (intro h0; exfalso; omega)⟩) hcc ?_
        simp only [List.setIfInBounds_toArray, List.set_cons_zero, List.set_cons_succ]
        refine take_X 6 98 (.pointer (some ⟨bY, oY, none⟩)) rfl (by rfl) (by kernel_rfl) (by kernel_rfl) (by kernel_rfl) (by kernel_rfl) (fun _ _ _ h => h) (fun _ _ h => h) (Or.inl ⟨by rfl, fun w' _ => by go_simp⟩) hcc ?_
        simp only [List.setIfInBounds_toArray, List.set_cons_zero, List.set_cons_succ]
        refine take_X 7 99 (.string y0.k) rfl (by rfl) (by kernel_rfl) (by kernel_rfl) (by kernel_rfl) (by kernel_rfl) (fun _ _ _ h => h) (fun _ _ h => h) (Or.inl ⟨by rfl, fun w' hB => by obtain ⟨_, _, _, hS⟩ := hB; have c := hS.2; go_simp⟩) hcc ?_
        simp only [List.setIfInBounds_toArray, List.set_cons_zero, List.set_cons_succ]
        refine take_X 8 100 (.pointer (some ⟨ga + 1, 0, none⟩)) rfl (by rfl) (by kernel_rfl) (by kernel_rfl) (by kernel_rfl) (by kernel_rfl) (fun _ _ _ h => h) (fun _ _ h => h) (Or.inl ⟨by rfl, fun w' _ => by go_simp⟩) hcc ?_
        simp only [List.setIfInBounds_toArray, List.set_cons_zero, List.set_cons_succ]
        clear hdr HBA hcc
        refine only_X 9 rfl (by kernel_rfl) (by rfl) (fun K hK => ?_)
        have k0 : v0.cell? ⟨ga + 1, 0, none⟩ = some (.string y1.k) := (cell_of_row _ _ 0 _ _ _ Rj.out).trans (by unfold ecK; rfl)
        have f0 := frozen_of_row v0 (ga + 1) 0 _ _ Rj.out
        have l0 := row_lt Rj.out
        go_wp2_with fail
        clear k0 f0 l0
        have hgg := grown_cell v0 (ga + 1) 0 (.string x0.k)
        have r1 := Lib.hid (show (v0.setCell ⟨ga + 1, 0, none⟩ (.string x0.k)).heap[ga + 1]? = some (.cells (ecK (⟨x0.k, y1.n, y1.hs⟩ : Kd)).toArray 45 (0, 0)) from row_set (cs := ecK y1) (i := 0) (u := .string x0.k) Rj.out)
        have hle : w.heap.size ≤ ga + 1 := by have := HGW.out; have := HGK.out; omega
        replace HM := Lib.hid (MkC.cell (u := .string x0.k) (i := 0) HM.out Rj.out (by decide) hle)
        replace Rx := Lib.hid (row_other hgg Rx.out (by have := HGK.out; have := HGX.out; omega))
        replace Ry := Lib.hid (row_other hgg Ry.out (by have := HGK.out; have := HGX.out; omega))
        replace Ra := Lib.hid (row_other hgg Ra.out (by have := HGK.out; have := HGX.out; omega))
        replace Rk := Lib.hid (row_other hgg Rk.out (by have := HGK.out; have := HGX.out; omega))
        replace HB := Lib.hid (HB.out.trans (below_of_grown hgg HB.out.size hle))
        clear hgg hle Rj
        have Rj := r1
        clear r1
        generalize (v0.setCell ⟨ga + 1, 0, none⟩ (.string x0.k)) = v1 at *
        have hcc : v1.cell? ⟨bX, oX, none⟩ = some (.string x0.k) ∧ v1.cell? ⟨bY, oY, none⟩ = some (.string y0.k) := ⟨(HB.out.cell (p := ⟨bX, _, none⟩) HLT.out.1).trans HCX.out, (HB.out.cell (p := ⟨bY, _, none⟩) HLT.out.2).trans HCY.out⟩
        refine hK.out _ _ hcc ?_
        clear hK K hcc
        try simp only [Act.put, List.setIfInBounds_toArray, List.set_cons_zero, List.set_cons_succ]
        have hcc : v1.cell? ⟨bX, oX, none⟩ = some (.string x0.k) ∧ v1.cell? ⟨bY, oY, none⟩ = some (.string y0.k) := ⟨(HB.out.cell (p := ⟨bX, _, none⟩) HLT.out.1).trans HCX.out, (HB.out.cell (p := ⟨bY, _, none⟩) HLT.out.2).trans HCY.out⟩
        refine take_X 10 101 (.pointer (some ⟨gk, 0, none⟩)) rfl (by rfl) (by kernel_rfl) (by kernel_rfl) (by kernel_rfl) (by kernel_rfl) (fun _ _ _ h => h) (fun _ _ h => h) (Or.inl ⟨by rfl, fun w' _ => by go_simp⟩) hcc ?_
        simp only [List.setIfInBounds_toArray, List.set_cons_zero, List.set_cons_succ]
        clear hcc
        refine only_X 11 rfl (by kernel_rfl) (by rfl) (fun K hK => ?_)
        have k0 : v1.cell? ⟨gk, 0, none⟩ = some (.string y2.k) := (cell_of_row _ _ 0 _ _ _ Rk.out).trans (by unfold ecK; rfl)
        have f0 := frozen_of_row v1 (gk) 0 _ _ Rk.out
        have l0 := row_lt Rk.out
        go_wp2_with fail
        clear k0 f0 l0
        have hgg := grown_cell v1 (gk) 0 (.string y0.k)
        have r1 := Lib.hid (show (v1.setCell ⟨gk, 0, none⟩ (.string y0.k)).heap[gk]? = some (.cells (ecK (⟨y0.k, y2.n, y2.hs⟩ : Kd)).toArray 45 (0, 0)) from row_set (cs := ecK y2) (i := 0) (u := .string y0.k) Rk.out)
        have hle : w.heap.size ≤ gk := by have := HGW.out; have := HGK.out; omega
        replace HM := Lib.hid (MkC.cell (u := .string y0.k) (i := 0) HM.out Rk.out (by decide) hle)
        replace Rx := Lib.hid (row_other hgg Rx.out (by have := HGK.out; have := HGX.out; omega))
        replace Ry := Lib.hid (row_other hgg Ry.out (by have := HGK.out; have := HGX.out; omega))
        replace Ra := Lib.hid (row_other hgg Ra.out (by have := HGK.out; have := HGX.out; omega))
        replace Rj := Lib.hid (row_other hgg Rj.out (by have := HGK.out; have := HGX.out; omega))
        replace HB := Lib.hid (HB.out.trans (below_of_grown hgg HB.out.size hle))
        clear hgg hle Rk
        have Rk := r1
        clear r1
        generalize (v1.setCell ⟨gk, 0, none⟩ (.string y0.k)) = v2 at *
        have hcc : v2.cell? ⟨bX, oX, none⟩ = some (.string x0.k) ∧ v2.cell? ⟨bY, oY, none⟩ = some (.string y0.k) := ⟨(HB.out.cell (p := ⟨bX, _, none⟩) HLT.out.1).trans HCX.out, (HB.out.cell (p := ⟨bY, _, none⟩) HLT.out.2).trans HCY.out⟩
        refine hK.out _ _ hcc ?_
        clear hK K hcc
        try simp only [Act.put, List.setIfInBounds_toArray, List.set_cons_zero, List.set_cons_succ]
        refine done_X (by kernel_rfl) ?_ _
        clear Rx Ry
        have hb : Below v2.heap.size v2 (v2.alloc (.cells ((ecK (⟨x0.k, y1.n, y1.hs⟩ : Kd)).toArray ++ (ecK (⟨y0.k, y2.n, y2.hs⟩ : Kd)).toArray) 45)) := (Below.refl _ _).alloc (Nat.le_refl _) _
        have HS0 := Lib.hid (heap_alloc_new v2 (.cells ((ecK (⟨x0.k, y1.n, y1.hs⟩ : Kd)).toArray ++ (ecK (⟨y0.k, y2.n, y2.hs⟩ : Kd)).toArray) 45))
        have RaN := Lib.hid ((hb.block _ (row_lt Ra.out)).trans Ra.out)
        have RjN := Lib.hid ((hb.block _ (row_lt Rj.out)).trans Rj.out)
        have RkN := Lib.hid ((hb.block _ (row_lt Rk.out)).trans Rk.out)
        have HMN := Lib.hid (show MkC w (v2.alloc (.cells ((ecK (⟨x0.k, y1.n, y1.hs⟩ : Kd)).toArray ++ (ecK (⟨y0.k, y2.n, y2.hs⟩ : Kd)).toArray) 45)) (.slice A2 n2 c2) L2 from Mk.go HM.out hb)
        have HBN := Lib.hid (HB.out.trans (hb.mono HB.out.size))
        clear hb HM HB
        go_upto_region 15 with (first | (refine wpList_load_row rfl 45 (.tmp 10) rfl (ga + 1) rfl 45 (ecK (⟨x0.k, y1.n, y1.hs⟩ : Kd)).toArray (0, 0) _ Rj.out Tryz.underlying45 rfl (infoKa (⟨x0.k, y1.n, y1.hs⟩ : Kd)) ?_) | (refine wpList_load_row rfl 45 (.tmp 12) rfl (gk) rfl 45 (ecK (⟨y0.k, y2.n, y2.hs⟩ : Kd)).toArray (0, 0) _ Rk.out Tryz.underlying45 rfl (infoKa (⟨y0.k, y2.n, y2.hs⟩ : Kd)) ?_) | (refine wpList_twoK rfl (.tmp 102) (.tmp 103) (⟨x0.k, y1.n, y1.hs⟩ : Kd) (⟨y0.k, y2.n, y2.hs⟩ : Kd) rfl rfl rfl ?_; change wpList _ _ _ _ _ (v2.alloc (.cells ((ecK (⟨x0.k, y1.n, y1.hs⟩ : Kd)).toArray ++ (ecK (⟨y0.k, y2.n, y2.hs⟩ : Kd)).toArray) 45)); generalize (v2.alloc (.cells ((ecK (⟨x0.k, y1.n, y1.hs⟩ : Kd)).toArray ++ (ecK (⟨y0.k, y2.n, y2.hs⟩ : Kd)).toArray) 45)) = v3 at *; generalize v2.heap.size = gs at *))
        clear Ra Rj Rk
        have Ra := RaN
        have Rj := RjN
        have Rk := RkN
        have HM := HMN
        have HB := HBN
        clear HMN HBN RaN RjN RkN
        have hb : Below v3.heap.size v3 (v3.alloc (.cells #[.int .u8 2, .slice none 0 0, .slice (some ⟨gs, 0, none⟩) 2 2, .slice none 0 0] 31)) := (Below.refl _ _).alloc (Nat.le_refl _) _
        have Rp := Lib.hid (heap_alloc_new v3 (.cells #[.int .u8 2, .slice none 0 0, .slice (some ⟨gs, 0, none⟩) 2 2, .slice none 0 0] 31))
        have HS1 := Lib.hid ((hb.block _ (row_lt HS0.out)).trans HS0.out)
        replace HM := Lib.hid (show MkC w (v3.alloc (.cells #[.int .u8 2, .slice none 0 0, .slice (some ⟨gs, 0, none⟩) 2 2, .slice none 0 0] 31)) (.slice A2 n2 c2) L2 from Mk.go HM.out hb)
        replace Ra := Lib.hid ((hb.block _ (row_lt Ra.out)).trans Ra.out)
        replace Rj := Lib.hid ((hb.block _ (row_lt Rj.out)).trans Rj.out)
        replace Rk := Lib.hid ((hb.block _ (row_lt Rk.out)).trans Rk.out)
        replace HB := Lib.hid (HB.out.trans (hb.mono HB.out.size))
        clear hb HS0
        generalize (v3.alloc (.cells #[.int .u8 2, .slice none 0 0, .slice (some ⟨gs, 0, none⟩) 2 2, .slice none 0 0] 31)) = v4 at *
        generalize v3.heap.size = gp at *
        have HUW := Lib.hid (upN_wd (a := x0.k) (b := y0.k) (hsD_len (encB (lf (x0 :: X0)))) (hsD_len (encB (lf (y0 :: Y0)))))
        have HUA := Lib.hid (show NdAt v4 #[.int .u8 2, .slice none 0 0, .slice (some ⟨gs, 0, none⟩) 2 2, .slice none 0 0] (upN x0.k y0.k (hsD (encB (lf (x0 :: X0)))) (hsD (encB (lf (y0 :: Y0))))) from ⟨none, 0, 0, some ⟨gs, 0, none⟩, 2, 2, none, 0, 0, rfl, rfl, rfl, rfl, by decide, by decide, by decide, Ls.nil, by have h2 := two_ls HS1.out (row_lt HS1.out); rw [HY1.out, HYE.out] at h2; exact h2, Ls.nil⟩)
        have HUP := Lib.hid (tp3 (X := x0 :: X0) (Y := y0 :: Y0) HKS.out.1.1 HKS.out.1.2 HKS.out.2.1 HKS.out.2.2 hbl)
        have HOK2 := Lib.hid (tn2 HX0.out HY0.out HEQ.out)
        have HL2E := Lib.hid (show L2 = [⟨2, encB (lf (x0 :: X0)), 0⟩, ⟨3, encB (lf (y0 :: Y0)), 0⟩] from HL2.out.trans HPN.out.2.1)
        have hs1 := HOK2.out.few
        rw [← HL2E.out] at hs1
        have HIN := Lib.hid (HIn.of_mk HM.out hs1.1 hs1.2)
        clear hs1 HS1 hbl
        have f_Ra_0 : v4.cell? ⟨ga, 0, none⟩ = some (.int .u32 16) := cell_of_row _ _ 0 _ _ _ Ra.out
        have f_Ra_1 : v4.cell? ⟨ga, 1, none⟩ = some (.slice A2 n2 c2) := cell_of_row _ _ 1 _ _ _ Ra.out
        have l_Ra := row_lt Ra.out
        have f_Rp_0 : v4.cell? ⟨gp, 0, none⟩ = some (.int .u8 2) := cell_of_row _ _ 0 _ _ _ Rp.out
        have f_Rp_1 : v4.cell? ⟨gp, 1, none⟩ = some (.slice none 0 0) := cell_of_row _ _ 1 _ _ _ Rp.out
        have f_Rp_2 : v4.cell? ⟨gp, 2, none⟩ = some (.slice (some ⟨gs, 0, none⟩) 2 2) := cell_of_row _ _ 2 _ _ _ Rp.out
        have f_Rp_3 : v4.cell? ⟨gp, 3, none⟩ = some (.slice none 0 0) := cell_of_row _ _ 3 _ _ _ Rp.out
        have l_Rp := row_lt Rp.out
        go_wp2_with fail
        clear f_Ra_0 f_Ra_1 l_Ra f_Rp_0 f_Rp_1 f_Rp_2 f_Rp_3 l_Rp
        refine (PutG_any (HK.out _ HB.out) (sz := 16) HIN.out (upN x0.k y0.k (hsD (encB (lf (x0 :: X0)))) (hsD (encB (lf (y0 :: Y0))))) HUW.out _ HUA.out).mono ?_
        rintro e v5 ⟨s3, A3, n3, c3, z3, L3, y3, rfl, hm, hR⟩
        clear HIN
        replace HM := Lib.hid (show MkC w v5 (.slice A3 n3 c3) L3 from hm.since HB.out)
        replace Ra := Lib.hid ((hm.2.block _ (row_lt Ra.out)).trans Ra.out)
        replace Rj := Lib.hid ((hm.2.block _ (row_lt Rj.out)).trans Rj.out)
        replace Rk := Lib.hid ((hm.2.block _ (row_lt Rk.out)).trans Rk.out)
        replace Rp := Lib.hid ((hm.2.block _ (row_lt Rp.out)).trans Rp.out)
        replace HB := Lib.hid (HB.out.trans (hm.2.mono HB.out.size))
        have HYR := Lib.hid hR.hl
        rw [HL2E.out] at hR
        obtain ⟨hz3, hs3, hL3, hy3⟩ := PuR.ok hR HOK2.out HUP.out
        subst hz3 hs3
        clear hm hR
        have HTD := Lib.hid (HUP.out.told HUW.out HOK2.out)
        have HOK3 := Lib.hid (HUP.out.right HUW.out HOK2.out)
        rw [← hL3, ← hy3] at HTD
        rw [← hL3] at HOK3
        clear hL3 hy3 HUP HOK2 Rp
        generalize hup : (upN x0.k y0.k (hsD (encB (lf (x0 :: X0)))) (hsD (encB (lf (y0 :: Y0))))) = nd at *
        have HND := Lib.hid hup
        clear hup
        have HGL0 := Lib.hid (row_lt Rk.out)
        have hb : Below v5.heap.size v5 (v5.alloc (.cells zKd 45)) := (Below.refl _ _).alloc (Nat.le_refl _) _
        have HZ0 := Lib.hid (heap_alloc_new v5 (.cells zKd 45))
        have HGL := Lib.hid (show ga + 1 < v5.heap.size from row_lt Rj.out)
        replace HM := Lib.hid (show MkC w (v5.alloc (.cells zKd 45)) (.slice A3 n3 c3) L3 from Mk.go HM.out hb)
        replace Ra := Lib.hid ((hb.block _ (row_lt Ra.out)).trans Ra.out)
        replace Rj := Lib.hid ((hb.block _ (row_lt Rj.out)).trans Rj.out)
        replace Rk := Lib.hid ((hb.block _ (row_lt Rk.out)).trans Rk.out)
        replace HB := Lib.hid (HB.out.trans (hb.mono HB.out.size))
        clear hb
        have r1 := row_set (cs := [.int .u32 16, .slice A2 n2 c2]) (i := 0) (u := .int .u32 16) Ra.out
        have r2 : (((v5.alloc (.cells zKd 45)).setCell ⟨ga, 0, none⟩ (.int .u32 16)).setCell ⟨ga, 1, none⟩ (.slice A3 n3 c3)).heap[ga]? = some (.cells #[.int .u32 16, .slice A3 n3 c3] 25 (0, 0)) := row_set (cs := [.int .u32 16, .slice A2 n2 c2]) (i := 1) (u := .slice A3 n3 c3) r1
        have hgg := grown_trans (grown_cell (v5.alloc (.cells zKd 45)) ga 0 (.int .u32 16)) (grown_cell ((v5.alloc (.cells zKd 45)).setCell ⟨ga, 0, none⟩ (.int .u32 16)) ga 1 (.slice A3 n3 c3))
        have hg2 := grown_row (((v5.alloc (.cells zKd 45)).setCell ⟨ga, 0, none⟩ (.int .u32 16)).setCell ⟨ga, 1, none⟩ (.slice A3 n3 c3)) v5.heap.size (ecK y3).toArray
        have hz1 := row_other hgg HZ0.out (by have := HGL.out; have := HGX.out; have := HGK.out; have := HGL0.out;  omega)
        have HZR := Lib.hid hz1
        have HZS := Lib.hid (show zKd.size = (ecK y3).toArray.size from (show zKd.size = 34 from rfl).trans (ecK_sz y3))
        have hb1 := below_of_grown hgg HB.out.size HGW.out
        have hle : w.heap.size ≤ v5.heap.size := by have := HGL.out; have := HGW.out; omega
        have hb2 := below_of_grown hg2 (HB.out.trans hb1).size hle
        have hm1 : MkC w (((v5.alloc (.cells zKd 45)).setCell ⟨ga, 0, none⟩ (.int .u32 16)).setCell ⟨ga, 1, none⟩ (.slice A3 n3 c3)) (.slice A3 n3 c3) L3 := MkC.two HM.out Ra.out HGW.out
        have ra2 := row_other hg2 r2 (by have := HGL.out; have := HGX.out; have := HGK.out; have := HGL0.out;  omega)
        have f_Ra_0 : (v5.alloc (.cells zKd 45)).cell? ⟨ga, 0, none⟩ = some (.int .u32 16) := cell_of_row _ _ 0 _ _ _ Ra.out
        have f_Ra_1 : (v5.alloc (.cells zKd 45)).cell? ⟨ga, 1, none⟩ = some (.slice A2 n2 c2) := cell_of_row _ _ 1 _ _ _ Ra.out
        have l_Ra := row_lt Ra.out
        have z0 := frozen_of_row (v5.alloc (.cells zKd 45)) ga 0 _ _ Ra.out
        have z1 := frozen_of_row (v5.alloc (.cells zKd 45)) ga 1 _ _ Ra.out
        have HMN := Lib.hid (hm1.grownQ hg2 hle (Mk.off hm1 hz1 (by decide)))
        have RAN := Lib.hid ra2
        have RjN := Lib.hid (row_other hg2 (row_other hgg Rj.out (by have := HGL.out; have := HGX.out; have := HGK.out; have := HGL0.out; have := row_lt Rj.out; omega)) (by have := HGL.out; have := HGX.out; have := HGK.out; have := HGL0.out; have := row_lt Rj.out; omega))
        have RkN := Lib.hid (row_other hg2 (row_other hgg Rk.out (by have := HGL.out; have := HGX.out; have := HGK.out; have := HGL0.out; have := row_lt Rk.out; omega)) (by have := HGL.out; have := HGX.out; have := HGK.out; have := HGL0.out; have := row_lt Rk.out; omega))
        have Rr := Lib.hid (setRow_at (cs := (ecK y3).toArray) hz1)
        have HBN := Lib.hid ((HB.out.trans hb1).trans hb2)
        clear r1 r2 hgg hg2 hz1 hb1 hb2 hm1 ra2 hle HM HB HZ0 Rj Rk
        go_wp2_with (refine wpList_store_row rfl 45 (.tmp 15) (.tmp 111) rfl v5.heap.size (ecK y3).toArray rfl rfl 45 _ HZR.out (infoKa y3) HZS.out (all_of_one (ecK_one y3)) ?_; change wpList _ _ _ _ _ ((((v5.alloc (.cells zKd 45)).setCell ⟨ga, 0, none⟩ (.int .u32 16)).setCell ⟨ga, 1, none⟩ (.slice A3 n3 c3)).setRow v5.heap.size (ecK y3).toArray); generalize ((((v5.alloc (.cells zKd 45)).setCell ⟨ga, 0, none⟩ (.int .u32 16)).setCell ⟨ga, 1, none⟩ (.slice A3 n3 c3)).setRow v5.heap.size (ecK y3).toArray) = v6 at *; clear HZR HZS f_Ra_0 f_Ra_1 l_Ra z0 z1 Ra; generalize v5.heap.size = gr at *; have HM := HMN; have HB := HBN; have Ra := RAN; have Rj := RjN; have Rk := RkN; clear HMN HBN RAN RjN RkN; have f_Ra_0 : v6.cell? ⟨ga, 0, none⟩ = some (.int .u32 16) := cell_of_row _ _ 0 _ _ _ Ra.out; have f_Ra_1 : v6.cell? ⟨ga, 1, none⟩ = some (.slice A3 n3 c3) := cell_of_row _ _ 1 _ _ _ Ra.out; have l_Ra := row_lt Ra.out; have f_r : v6.cell? ⟨gr, 1, none⟩ = some (.int .u32 y3.n) := (cell_of_row _ _ 1 _ _ _ Rr.out).trans (by unfold ecK; rfl); have l_r := row_lt Rr.out)
        clear f_Ra_0 f_Ra_1 l_Ra f_r l_r
        have HIN := Lib.hid (HIn.of_mk HM.out HOK3.out.few.1 HOK3.out.few.2)
        have HGG := Lib.hid (get_any (HK.out _ HB.out) HIN.out 16 c3 y3.n)
        rw [HTD.out.2, HTD.out.1] at HGG
        refine HGG.out.mono ?_
        rintro e v7 ⟨cs7, rfl, hown⟩
        replace Ra := Lib.hid ((hown.bel.block _ (row_lt Ra.out)).trans Ra.out)
        replace Rj := Lib.hid ((hown.bel.block _ (row_lt Rj.out)).trans Rj.out)
        replace Rk := Lib.hid ((hown.bel.block _ (row_lt Rk.out)).trans Rk.out)
        replace Rr := Lib.hid ((hown.bel.block _ (row_lt Rr.out)).trans Rr.out)
        replace HB := Lib.hid (HB.out.trans (hown.bel.mono HB.out.size))
        have HNO := Lib.hid hown
        obtain ⟨vI, vK, vV, rfl, ho1, ho2, ho3⟩ := hown
        obtain ⟨BI, mI, dI, rfl⟩ := own_shape ho1.1
        obtain ⟨BK, mK, dK, rfl⟩ := own_shape ho2.1
        obtain ⟨BV, mV, dV, rfl⟩ := own_shape ho3.1
        clear ho1 ho2 ho3 HGG HIN
        go_upto_region 19 with fail
        have hb : Below v7.heap.size v7 (v7.alloc (.cells #[.int .u8 nd.kd, .slice BI mI dI, .slice BK mK dK, .slice BV mV dV] 31)) := (Below.refl _ _).alloc (Nat.le_refl _) _
        replace HNO := Lib.hid (HNO.out.go hb)
        replace Ra := Lib.hid ((hb.block _ (row_lt Ra.out)).trans Ra.out)
        replace Rj := Lib.hid ((hb.block _ (row_lt Rj.out)).trans Rj.out)
        replace Rk := Lib.hid ((hb.block _ (row_lt Rk.out)).trans Rk.out)
        replace Rr := Lib.hid ((hb.block _ (row_lt Rr.out)).trans Rr.out)
        replace HB := Lib.hid (HB.out.trans (hb.mono HB.out.size))
        have Rg := Lib.hid (heap_alloc_new v7 (.cells #[.int .u8 nd.kd, .slice BI mI dI, .slice BK mK dK, .slice BV mV dV] 31))
        clear hb
        generalize (v7.alloc (.cells #[.int .u8 nd.kd, .slice BI mI dI, .slice BK mK dK, .slice BV mV dV] 31)) = v8 at *
        generalize v7.heap.size = gg at *
        have f_Rg_0 : v8.cell? ⟨gg, 0, none⟩ = some (.int .u8 nd.kd) := cell_of_row _ _ 0 _ _ _ Rg.out
        have f_Rg_1 : v8.cell? ⟨gg, 1, none⟩ = some (.slice BI mI dI) := cell_of_row _ _ 1 _ _ _ Rg.out
        have f_Rg_2 : v8.cell? ⟨gg, 2, none⟩ = some (.slice BK mK dK) := cell_of_row _ _ 2 _ _ _ Rg.out
        have f_Rg_3 : v8.cell? ⟨gg, 3, none⟩ = some (.slice BV mV dV) := cell_of_row _ _ 3 _ _ _ Rg.out
        have l_Rg := row_lt Rg.out
        go_wp2_with fail
        clear f_Rg_0 f_Rg_1 f_Rg_2 f_Rg_3 l_Rg
        have HNF := Lib.hid (show nd.I.length = 0 ∧ nd.K.length = 2 ∧ nd.V.length = 0 by rw [← HND.out]; exact ⟨rfl, rfl, rfl⟩)
        refine (kids_any nd HUW.out (by have := HNF.out; omega) (by have := HNF.out; omega) _ v8 (HNO.out.at_ (by have := HNF.out; omega) (by have := HNF.out; omega) (by have := HNF.out; omega))).mono ?_
        rintro e v9 ⟨v, rfl, hm⟩
        replace Ra := Lib.hid ((hm.2.block _ (row_lt Ra.out)).trans Ra.out)
        replace Rj := Lib.hid ((hm.2.block _ (row_lt Rj.out)).trans Rj.out)
        replace Rk := Lib.hid ((hm.2.block _ (row_lt Rk.out)).trans Rk.out)
        replace Rr := Lib.hid ((hm.2.block _ (row_lt Rr.out)).trans Rr.out)
        replace Rg := Lib.hid ((hm.2.block _ (row_lt Rg.out)).trans Rg.out)
        replace HB := Lib.hid (HB.out.trans (hm.2.mono HB.out.size))
        rw [← HND.out, up_kd] at hm
        obtain ⟨AU, cU, hv, _, _, hlU⟩ := Ar.Mk.ls (enc := enU) (k := 1) (fun _ => rfl) hm
        obtain ⟨bU, oU, hAU, hbU, hU0⟩ := hlU 0 2 rfl
        obtain ⟨bU2, oU2, hAU2, _, hU1⟩ := hlU 1 3 rfl
        rw [hAU] at hAU2
        cases hAU2
        subst hAU
        have hv : v = .slice (some ⟨bU, oU, none⟩) 2 cU := hv
        subst hv
        have HU0 := Lib.hid (hU0 0 (.int .u32 2) rfl)
        have HU1 := Lib.hid (hU1 0 (.int .u32 3) rfl)
        have HUL := Lib.hid hbU
        clear hlU hU0 hU1 hbU hm
        go_wp2_with fail
        have lj := row_lt Rj.out
        have lk := row_lt Rk.out
        refine wp_region_G (fun w' => Below v9.heap.size v9 w') (by kernel_rfl) (by kernel_rfl) (Below.refl _ _).drew ?_
        refine wpG_val (.int .i64 0) rfl (by rfl) (fun w' hSw => by go_simp) ?_
        simp only [List.setIfInBounds_toArray, List.set_cons_zero, List.set_cons_succ]
        refine wpG_val (.bool true) rfl (by rfl) (fun w' hSw => by go_simp) ?_
        simp only [List.setIfInBounds_toArray, List.set_cons_zero, List.set_cons_succ]
        refine wpG_val (.bool true) rfl (by rfl) (fun w' hSw => by go_simp) ?_
        simp only [List.setIfInBounds_toArray, List.set_cons_zero, List.set_cons_succ]
        refine wpG_val (.slice (some ⟨bU, oU, none⟩) 2 cU) rfl (by rfl) (fun w' hSw => by go_simp) ?_
        simp only [List.setIfInBounds_toArray, List.set_cons_zero, List.set_cons_succ]
        refine wpG_val (.int .i64 2) rfl (by rfl) (fun w' hSw => by go_simp) ?_
        simp only [List.setIfInBounds_toArray, List.set_cons_zero, List.set_cons_succ]
        refine wpG_val (.bool true) rfl (by rfl) (fun w' hSw => by go_simp) ?_
        simp only [List.setIfInBounds_toArray, List.set_cons_zero, List.set_cons_succ]
        refine wpG_val (.bool true) rfl (by rfl) (fun w' hSw => by go_simp) ?_
        simp only [List.setIfInBounds_toArray, List.set_cons_zero, List.set_cons_succ]
        refine wpG_val (.bool true) rfl (by rfl) (fun w' hSw => by go_simp) ?_
        simp only [List.setIfInBounds_toArray, List.set_cons_zero, List.set_cons_succ]
        refine wpG_val (.slice (some ⟨bU, oU, none⟩) 2 cU) rfl (by rfl) (fun w' hSw => by go_simp) ?_
        simp only [List.setIfInBounds_toArray, List.set_cons_zero, List.set_cons_succ]
        refine wpG_val (.pointer (some ⟨bU, oU, none⟩)) rfl (by rfl) (fun w' hSw => by go_simp) ?_
        simp only [List.setIfInBounds_toArray, List.set_cons_zero, List.set_cons_succ]
        refine wpG_val (.int .u32 2) rfl (by rfl) (fun w' hSw => by have c : w'.cell? ⟨bU, oU, none⟩ = some (.int .u32 2) := (hSw.cell (p := ⟨bU, _, none⟩) HUL.out).trans HU0.out; go_simp) ?_
        simp only [List.setIfInBounds_toArray, List.set_cons_zero, List.set_cons_succ]
        refine wpG_val (.pointer (some ⟨ga + 1, 1, none⟩)) rfl (by rfl) (fun w' hSw => by go_simp) ?_
        simp only [List.setIfInBounds_toArray, List.set_cons_zero, List.set_cons_succ]
        refine wpG_val (.int .u32 2) rfl (by rfl) (fun w' hSw => by have c : w'.cell? ⟨ga + 1, 1, none⟩ = some (.int .u32 2) := (cell_of_row _ _ 1 _ _ _ ((hSw.block _ lj).trans Rj.out)).trans (by unfold ecK; rw [HY1.out]; rfl); go_simp) ?_
        simp only [List.setIfInBounds_toArray, List.set_cons_zero, List.set_cons_succ]
        refine wpG_val (.bool true) rfl (by rfl) (fun w' hSw => by go_simp) ?_
        simp only [List.setIfInBounds_toArray, List.set_cons_zero, List.set_cons_succ]
        refine wpG_val (.bool true) rfl (by rfl) (fun w' hSw => by go_simp) ?_
        simp only [List.setIfInBounds_toArray, List.set_cons_zero, List.set_cons_succ]
        refine wpG_val (.bool true) rfl (by rfl) (fun w' hSw => by go_simp) ?_
        simp only [List.setIfInBounds_toArray, List.set_cons_zero, List.set_cons_succ]
        refine wpG_val (.slice (some ⟨bU, oU, none⟩) 2 cU) rfl (by rfl) (fun w' hSw => by go_simp) ?_
        simp only [List.setIfInBounds_toArray, List.set_cons_zero, List.set_cons_succ]
        refine wpG_val (.pointer (some ⟨bU, oU + 1, none⟩)) rfl (by rfl) (fun w' hSw => by go_simp) ?_
        simp only [List.setIfInBounds_toArray, List.set_cons_zero, List.set_cons_succ]
        refine wpG_val (.int .u32 3) rfl (by rfl) (fun w' hSw => by have c : w'.cell? ⟨bU, oU + 1, none⟩ = some (.int .u32 3) := (hSw.cell (p := ⟨bU, _, none⟩) HUL.out).trans HU1.out; go_simp) ?_
        simp only [List.setIfInBounds_toArray, List.set_cons_zero, List.set_cons_succ]
        refine wpG_val (.pointer (some ⟨gk, 1, none⟩)) rfl (by rfl) (fun w' hSw => by go_simp) ?_
        simp only [List.setIfInBounds_toArray, List.set_cons_zero, List.set_cons_succ]
        refine wpG_val (.int .u32 3) rfl (by rfl) (fun w' hSw => by have c : w'.cell? ⟨gk, 1, none⟩ = some (.int .u32 3) := (cell_of_row _ _ 1 _ _ _ ((hSw.block _ lk).trans Rk.out)).trans (by unfold ecK; rw [HYE.out]; rfl); go_simp) ?_
        simp only [List.setIfInBounds_toArray, List.set_cons_zero, List.set_cons_succ]
        refine wpG_val (.bool true) rfl (by rfl) (fun w' hSw => by go_simp) ?_
        simp only [List.setIfInBounds_toArray, List.set_cons_zero, List.set_cons_succ]
        refine wpG_val (.bool true) rfl (by rfl) (fun w' hSw => by go_simp) ?_
        simp only [List.setIfInBounds_toArray, List.set_cons_zero, List.set_cons_succ]
        refine wpG_val (.bool true) rfl (by rfl) (fun w' hSw => by go_simp) ?_
        simp only [List.setIfInBounds_toArray, List.set_cons_zero, List.set_cons_succ]
        refine wpG_nil ?_
        intro vz hSz
        go_wp2_with fail
        go_ret
        exact ⟨rfl, HB.out.trans (hSz.mono HB.out.size)⟩
end Go.Proofs.YtlpejbbmemhloaaGreatDoor.Hp
/- A list of items as an argument. -/
namespace Go.Proofs.YtlpejbbmemhloaaGreatDoor.Fr
set_option linter.unusedVariables false
set_option linter.unusedSimpArgs false
set_option maxRecDepth 100000
open Go.Joins Go.ChangeShapes Go.WideShapes Go.RowKit Go.Deep
open Ar
section
variable {H : Type} {enc : TypeId × Value → H} {w : World} {base : Nat} {spare : Nat → Bool} {held : Bool}
theorem argIs {v : Value} {d : DataW H} {p : List MemPlace} (h : DataW.Trod enc Tryz.prog w base spare held 27 v d p) (hv : v.cells = #[v]) (hs : ∀ k ∈ d.weights Tryz.prog 27, k ≤ reachBytes) :
    ∃ A n c D, v = .slice A n c ∧ (n = List.length D ∧ n ≤ 281474976710656 ∧ Ls It.enc 2 w w.heap.size A D) := by
  obtain ⟨fuel, hf⟩ := h
  rw [hv] at hf
  obtain ⟨A, n, c, D, e, h1, h2, h3⟩ := slI_of (x := (d, p)) hf hs
  exact ⟨A, n, c, D, e, h1, by omega, h3⟩
end
end Go.Proofs.YtlpejbbmemhloaaGreatDoor.Fr
