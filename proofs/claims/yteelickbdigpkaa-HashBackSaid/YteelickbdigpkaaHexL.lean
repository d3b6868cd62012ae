/- The walks of the laws on a hash's digits. -/
import Derived.Test.YteelickbdigpkaaHexC
import Derived.Deep.RegionHeld3
namespace Go.Proofs.Yteelickbdigpkaa.Hc
set_option linter.unusedVariables false
open Go.ChangeShapes Go.WideShapes Go.ChangeAt Go.RowKit
open Pk (u8s u8s_length u8s_set u8s_get)
def At (w : World) (g : Nat) (C : Array Value) : Prop := w.heap[g]? = some (.cells C 22 (0, 0))
theorem At.lt {w : World} {g : Nat} {C : Array Value} (h : At w g C) : g < w.heap.size := by
  rcases Nat.lt_or_ge g w.heap.size with h' | h'
  · exact h'
  · unfold At at h; rw [Array.getElem?_eq_none h'] at h; cases h
theorem At.below {w w' : World} {g : Nat} {C : Array Value} (h : At w g C) (hb : Below w.heap.size w w') : At w' g C := (hb.block g h.lt).trans h
theorem At.range {w : World} {g : Nat} {C : Array Value} (h : At w g C) : w.rangeAt g 0 C.toList := fun j v hv => by
  unfold At at h
  rw [Nat.zero_add, cell_of_row w g j C _ (0, 0) h]
  simpa using hv
/-- what the region's loads read, and the rest of the world -/
def Held3 (w0 : World) (a b c : Nat) (A B C : Array Value) (w : World) : Prop := At w a A ∧ At w b B ∧ At w c C ∧ Below w0.heap.size w0 w
theorem range_below {w w' : World} {g : Nat} {l : List Value} (hl : 0 < l.length) (h : w.rangeAt g 0 l) (hb : Below w.heap.size w w') : w'.rangeAt g 0 l := fun j v hv => by
  have hc := h j v hv
  have hlt : g < w.heap.size := World.block_lt_of_cell? w _ hc
  exact (hb.cell (p := ⟨g, 0 + j, none⟩) hlt).trans hc
theorem keep3 {w0 w w' : World} {ga gc gd : Nat} {A D : List Value} (hA : 0 < A.length) (hD : 0 < D.length) (h1 : w.rangeAt ga 0 A) (h2 : w.rangeAt gc 0 D) (h3 : w.rangeAt gd 0 D) (h4 : Below ga w0 w) (hb : Below w.heap.size w w') :
    w'.rangeAt ga 0 A ∧ w'.rangeAt gc 0 D ∧ w'.rangeAt gd 0 D ∧ Below ga w0 w' := by
  have hlt : ga < w.heap.size := World.block_lt_of_cell? w _ (h1 0 A[0] (List.getElem?_eq_getElem hA))
  exact ⟨range_below hA h1 hb, range_below hD h2 hb, range_below hD h3 hb, h4.trans (hb.mono (Nat.le_of_lt hlt))⟩
theorem take_at {P : Program} {ops : Array Oper} {Q : Exit → Act → World → Prop} {md : Region.Mode} {S : World → Prop} {fuel : Nat} {listed : Array Bool} {tmps : Array Value} {w : World} (i n : Nat) (v : Value) {oi : Oper} (hi : ops[i]? = some oi) (hd : oi.dst = some n)
    (hs : Region.noSelect ops = true) (hf : Region.free md ops listed i = true) (hr : (Region.ready md ops listed).contains i = true)
    (hQ : ∀ c a w, Q (.panic c) (a.put oi.dst v) w → Q (.panic c) a w) (hy : YieldsIf P ops S oi v { tmps := tmps, defers := [] }) (hS : S w)
    (h : wpAnyH P md ops Q S fuel (listed.setIfInBounds i true) { tmps := tmps.setIfInBounds n v, defers := [] } w) : wpAnyH P md ops Q S (fuel + 1) listed { tmps := tmps, defers := [] } w := by
  refine wpAnyH_take hi hs hf hr hQ hy hS ?_
  rw [hd]
  exact h
theorem hex_same (l : List UInt8) (hl : l.length = 32) (C : Array Value) (hC : C = (u8s l).toArray) (X : ByteArray) (hX : X = ⟨(hexL l).toArray⟩) (w : World) :
    Calls Try.prog 10 #[.agg C] w fun e w' => e = .returned (.string X) ∧ Below w.heap.size w w' := by
  subst hC hX
  exact hex_any l hl w
theorem refhex_same (l : List UInt8) (hl : l.length = 32) (C : Array Value) (hC : C = (u8s l).toArray) (X : ByteArray) (hX : X = ⟨(hexL l).toArray⟩) (w : World) :
    Calls Try.prog 11 #[.agg C] w fun e w' => e = .returned (.string X) ∧ Below w.heap.size w w' := by
  subst hC hX
  exact refhex_any l hl w
set_option maxRecDepth 100000 in
set_option maxHeartbeats 500000 in
theorem hashCodes_walk (l : List UInt8) (hl : l.length = 32) (s : ByteArray) (hs : s.size ≤ maxLen) (w : World) :
    Calls Try.prog 3 #[.agg (u8s l).toArray, .string s] w fun e w' => e = .returned (.bool true) ∧ Below w.heap.size w w' := by
  obtain ⟨X, hX⟩ : ∃ X : ByteArray, X = ⟨(hexL l).toArray⟩ := ⟨_, rfl⟩
  obtain ⟨A, hA⟩ : ∃ A, A = (u8s l).toArray := ⟨_, rfl⟩
  rw [← hA]
  have HX := Lib.hid hX
  have HA := Lib.hid hA
  have HRA := Lib.hid (arr_row hA hl)
  have A0 := Lib.hid (show At (w.alloc (.cells A 22)) w.heap.size A from heap_alloc_new w _)
  have B0 := Lib.hid ((Below.refl w.heap.size w).alloc (Nat.le_refl _) (.cells A 22))
  have hlt0 : w.heap.size < (w.alloc (.cells A 22)).heap.size := by simp
  clear hX hA
  go_enter Try.func3, Try.ntmps3
  go_wp2_with fail
  generalize w.alloc (.cells A 22) = V0 at *
  refine (parse_any s hs _).mono ?_
  rintro e w1 ⟨C, hC, rfl, hb1⟩
  have A1 := Lib.hid (A0.out.below hb1)
  have B1 := Lib.hid (B0.out.trans (hb1.mono B0.out.size))
  have HC := Lib.hid hC
  have HRC := Lib.hid (arr_row hC (pA_length _))
  have hlt1 : w.heap.size < w1.heap.size := A1.out.lt
  clear hC hb1 A0 B0 hlt0
  go_wp2_with (first
    | (refine Go.Great.wpList_allocTo rfl (some 5) rfl _ _ (alloc_run _ _ rfl _) ?_)
    | (refine wpList_store_row rfl 22 (.tmp 5) (.tmp 12) rfl w1.heap.size C rfl rfl 22 Z32 (heap_alloc_new w1 _) HRC.out.1 HRC.out.2.1 HRC.out.2.2 ?_; have A2 := Lib.hid (show At ((w1.alloc (.cells Z32 22)).setRow w1.heap.size C) w.heap.size A from (old_row hlt1 _ _).trans A1.out); have C2 := Lib.hid (show At ((w1.alloc (.cells Z32 22)).setRow w1.heap.size C) w1.heap.size C from setRow_heap' (heap_alloc_new w1 _)); have B2 := Lib.hid (below_setRow (B1.out.alloc (Nat.le_of_lt hlt1) (.cells Z32 22)) (Nat.le_of_lt hlt1) C); change wpList _ _ _ _ _ ((w1.alloc (.cells Z32 22)).setRow w1.heap.size C); generalize ((w1.alloc (.cells Z32 22)).setRow w1.heap.size C) = V2 at *)
    | (go_at_call 8; (with_reducible refine (refparse_any s hs _).mono ?_); rintro e w3 ⟨D, hD, rfl, hb3⟩; rw [← HC.out] at hD; subst hD; have A3 := Lib.hid (A2.out.below hb3); have C3 := Lib.hid (C2.out.below hb3); have B3 := Lib.hid (B2.out.trans (hb3.mono B2.out.size)); have hlt3 : w.heap.size < w3.heap.size := A3.out.lt; clear hb3)
    | (refine Go.Great.wpList_allocTo rfl (some 7) rfl _ _ (alloc_run _ _ rfl _) ?_)
    | (refine wpList_store_row rfl 22 (.tmp 7) (.tmp 17) rfl w3.heap.size D rfl rfl 22 Z32 (heap_alloc_new w3 _) HRC.out.1 HRC.out.2.1 HRC.out.2.2 ?_; have A4 := Lib.hid (show At ((w3.alloc (.cells Z32 22)).setRow w3.heap.size D) w.heap.size A from (old_row hlt3 _ _).trans A3.out); have C4 := Lib.hid (show At ((w3.alloc (.cells Z32 22)).setRow w3.heap.size D) w1.heap.size D from (old_row C3.out.lt _ _).trans C3.out); have D4 := Lib.hid (show At ((w3.alloc (.cells Z32 22)).setRow w3.heap.size D) w3.heap.size D from setRow_heap' (heap_alloc_new w3 _)); have B4 := Lib.hid (below_setRow (B3.out.alloc (Nat.le_of_lt hlt3) (.cells Z32 22)) (Nat.le_of_lt hlt3) D); change wpList _ _ _ _ _ ((w3.alloc (.cells Z32 22)).setRow w3.heap.size D); generalize ((w3.alloc (.cells Z32 22)).setRow w3.heap.size D) = V4 at *))
  have ra := A4.out.range
  have rc := C4.out.range
  have rd := D4.out.range
  have bb := B4.out
  have HB := Lib.hid B4.out
  clear A1 B1 hlt1 A2 B2 C2 A3 C3 B3 hlt3 A4 C4 D4 B4 V2 V0
  generalize hga : w.heap.size = ga at *
  generalize w1.heap.size = gc at *
  generalize w3.heap.size = gd at *
  have gu := Try.underlying22
  have gi1 : (Try.prog.info? 22).map (·.size) = some A.toList.length := by rw [Array.length_toList]; exact HRA.out.1
  have gi2 : (Try.prog.info? 22).map (·.size) = some D.toList.length := by rw [Array.length_toList]; exact HRC.out.1
  have hn1 : A.toList.length = 32 := by rw [Array.length_toList, ← HRA.out.2.1]; rfl
  have hn2 : D.toList.length = 32 := by rw [Array.length_toList, ← HRC.out.2.1]; rfl
  have ho1 : ∀ v ∈ A.toList, v.oneCell' = true := by
    intro v hv
    exact (Array.all_eq_true_iff_forall_mem.1 HRA.out.2.2) v (by simpa using hv)
  have ho2 : ∀ v ∈ D.toList, v.oneCell' = true := by
    intro v hv
    exact (Array.all_eq_true_iff_forall_mem.1 HRC.out.2.2) v (by simpa using hv)
  have hg := guard32
  have hq := equal_arr HC.out (pA_length _)
  refine wp_region_held_drew (S := fun w' => w'.rangeAt ga 0 A.toList ∧ w'.rangeAt gc 0 D.toList ∧ w'.rangeAt gd 0 D.toList ∧ Below ga w w') (by kernel_rfl) ⟨ra, rc, rd, bb.drew⟩ (fun hHeld => ?_)
  refine wpAnyH_ready (rs := [0]) (by kernel_rfl) (by simp) ?_
  refine AllReadyH.cons rfl (fun K hK => ?_) AllReadyH.nil
  go_simp
  go_wp2_with (go_at_call 9; refine (codes_any _).mono ?_; rintro e w5 ⟨rfl, hb5⟩)
  refine hK.out _ _ (keep3 (by omega) (by omega) hHeld.1 hHeld.2.1 hHeld.2.2.1 hHeld.2.2.2 hb5) (fun hHeld => ?_)
  clear hK K
  refine take_at 1 20 (.bool true) rfl (by rfl) (by kernel_rfl) (by kernel_rfl) (by kernel_rfl) (fun _ _ _ h => h) (Or.inl ⟨by rfl, fun w' hSw => by go_simp⟩) (by assumption) ?_
  simp only [List.setIfInBounds_toArray, List.set_cons_zero, List.set_cons_succ]
  refine take_at 2 21 (.agg A.toList.toArray) rfl (by rfl) (by kernel_rfl) (by kernel_rfl) (by kernel_rfl) (fun _ _ _ h => h) (yieldsIf_load_mid (by rfl) _ _ rfl _ _ rfl A.toList _ (fun w' hSw => hSw.1) gu rfl gi1) (by assumption) ?_
  simp only [List.setIfInBounds_toArray, List.set_cons_zero, List.set_cons_succ]
  refine take_at 4 23 (.agg A.toList.toArray) rfl (by rfl) (by kernel_rfl) (by kernel_rfl) (by kernel_rfl) (fun _ _ _ h => h) (yieldsIf_load_mid (by rfl) _ _ rfl _ _ rfl A.toList _ (fun w' hSw => hSw.1) gu rfl gi1) (by assumption) ?_
  simp only [List.setIfInBounds_toArray, List.set_cons_zero, List.set_cons_succ]
  simp only [Array.toArray_toList]
  refine wpAnyH_ready (rs := [3]) (by kernel_rfl) (by simp) ?_
  refine AllReadyH.cons rfl (fun K hK => ?_) AllReadyH.nil
  go_simp
  go_wp2_with (go_at_call 10; refine (hex_same l hl A HA.out X HX.out _).mono ?_; rintro e w5 ⟨rfl, hb5⟩)
  refine hK.out _ _ (keep3 (by omega) (by omega) hHeld.1 hHeld.2.1 hHeld.2.2.1 hHeld.2.2.2 hb5) (fun hHeld => ?_)
  clear hK K
  refine wpAnyH_ready (rs := [5]) (by kernel_rfl) (by simp) ?_
  refine AllReadyH.cons rfl (fun K hK => ?_) AllReadyH.nil
  go_simp
  go_wp2_with (go_at_call 11; refine (refhex_same l hl A HA.out X HX.out _).mono ?_; rintro e w5 ⟨rfl, hb5⟩)
  refine hK.out _ _ (keep3 (by omega) (by omega) hHeld.1 hHeld.2.1 hHeld.2.2.1 hHeld.2.2.2 hb5) (fun hHeld => ?_)
  clear hK K
  refine take_at 6 25 (.bool true) rfl (by rfl) (by kernel_rfl) (by kernel_rfl) (by kernel_rfl) (fun _ _ _ h => h) (Or.inl ⟨by rfl, fun w' hSw => by go_simp⟩) (by assumption) ?_
  simp only [List.setIfInBounds_toArray, List.set_cons_zero, List.set_cons_succ]
  refine take_at 7 26 (.bool true) rfl (by rfl) (by kernel_rfl) (by kernel_rfl) (by kernel_rfl) (fun _ _ _ h => h) (Or.inl ⟨by rfl, fun w' hSw => by go_simp⟩) (by assumption) ?_
  simp only [List.setIfInBounds_toArray, List.set_cons_zero, List.set_cons_succ]
  refine take_at 8 27 (.bool true) rfl (by rfl) (by kernel_rfl) (by kernel_rfl) (by kernel_rfl) (fun _ _ _ h => h) (Or.inl ⟨by rfl, fun w' hSw => by go_simp⟩) (by assumption) ?_
  simp only [List.setIfInBounds_toArray, List.set_cons_zero, List.set_cons_succ]
  refine take_at 9 28 (.agg D.toList.toArray) rfl (by rfl) (by kernel_rfl) (by kernel_rfl) (by kernel_rfl) (fun _ _ _ h => h) (yieldsIf_load_mid (by rfl) _ _ rfl _ _ rfl D.toList _ (fun w' hSw => hSw.2.1) gu rfl gi2) (by assumption) ?_
  simp only [List.setIfInBounds_toArray, List.set_cons_zero, List.set_cons_succ]
  refine take_at 10 29 (.agg D.toList.toArray) rfl (by rfl) (by kernel_rfl) (by kernel_rfl) (by kernel_rfl) (fun _ _ _ h => h) (yieldsIf_load_mid (by rfl) _ _ rfl _ _ rfl D.toList _ (fun w' hSw => hSw.2.2.1) gu rfl gi2) (by assumption) ?_
  simp only [List.setIfInBounds_toArray, List.set_cons_zero, List.set_cons_succ]
  simp only [Array.toArray_toList]
  refine take_at 11 30 (.bool true) rfl (by rfl) (by kernel_rfl) (by kernel_rfl) (by kernel_rfl) (fun _ _ _ h => h) (Or.inl ⟨by rfl, fun w' hSw => by go_simp⟩) (by assumption) ?_
  simp only [List.setIfInBounds_toArray, List.set_cons_zero, List.set_cons_succ]
  refine take_at 12 31 (.bool true) rfl (by rfl) (by kernel_rfl) (by kernel_rfl) (by kernel_rfl) (fun _ _ _ h => h) (Or.inl ⟨by rfl, fun w' hSw => by go_simp⟩) (by assumption) ?_
  simp only [List.setIfInBounds_toArray, List.set_cons_zero, List.set_cons_succ]
  refine take_at 13 32 (.bool true) rfl (by rfl) (by kernel_rfl) (by kernel_rfl) (by kernel_rfl) (fun _ _ _ h => h) (Or.inl ⟨by rfl, fun w' hSw => by go_simp⟩) (by assumption) ?_
  simp only [List.setIfInBounds_toArray, List.set_cons_zero, List.set_cons_succ]
  refine take_at 14 33 (.int .i64 (pE s.data.toList)) rfl (by rfl) (by kernel_rfl) (by kernel_rfl) (by kernel_rfl) (fun _ _ _ h => h) (Or.inl ⟨by rfl, fun w' hSw => by go_simp⟩) (by assumption) ?_
  simp only [List.setIfInBounds_toArray, List.set_cons_zero, List.set_cons_succ]
  refine take_at 15 34 (.int .i64 (pE s.data.toList)) rfl (by rfl) (by kernel_rfl) (by kernel_rfl) (by kernel_rfl) (fun _ _ _ h => h) (Or.inl ⟨by rfl, fun w' hSw => by go_simp⟩) (by assumption) ?_
  simp only [List.setIfInBounds_toArray, List.set_cons_zero, List.set_cons_succ]
  refine take_at 16 35 (.bool true) rfl (by rfl) (by kernel_rfl) (by kernel_rfl) (by kernel_rfl) (fun _ _ _ h => h) (Or.inl ⟨by rfl, fun w' hSw => by go_simp⟩) (by assumption) ?_
  simp only [List.setIfInBounds_toArray, List.set_cons_zero, List.set_cons_succ]
  refine take_at 17 36 (.bool true) rfl (by rfl) (by kernel_rfl) (by kernel_rfl) (by kernel_rfl) (fun _ _ _ h => h) (Or.inl ⟨by rfl, fun w' hSw => by go_simp⟩) (by assumption) ?_
  simp only [List.setIfInBounds_toArray, List.set_cons_zero, List.set_cons_succ]
  refine take_at 18 4 (.bool true) rfl (by rfl) (by kernel_rfl) (by kernel_rfl) (by kernel_rfl) (fun _ _ _ h => h) (Or.inl ⟨by rfl, fun w' hSw => by go_simp⟩) (by assumption) ?_
  simp only [List.setIfInBounds_toArray, List.set_cons_zero, List.set_cons_succ]
  refine wpAnyH_done (by kernel_rfl) ?_ _
  have hfin := hHeld.2.2.2
  clear hHeld
  go_wp2
  go_ret
  exact ⟨rfl, by rw [hga]; exact hfin⟩
theorem hex_of_parse {s : ByteArray} (h : pOk s.data.toList = true) : s = ⟨(hexL (pA s.data.toList)).toArray⟩ := by
  have h' := h
  unfold pOk at h'
  simp only [Bool.and_eq_true, decide_eq_true_eq] at h'
  apply ByteArray.ext
  show s.data = (hexL (pA s.data.toList)).toArray
  rw [(pE_yes h).2, hex_parse 32 _ (by omega) h'.2]
set_option maxRecDepth 100000 in
set_option maxHeartbeats 500000 in
theorem hashBack_walk (l : List UInt8) (hl : l.length = 32) (s : ByteArray) (hs : s.size ≤ maxLen) (w : World) :
    Calls Try.prog 4 #[.agg (u8s l).toArray, .string s] w fun e w' => e = .returned (.bool true) ∧ Below w.heap.size w w' := by
  obtain ⟨X, hX⟩ : ∃ X : ByteArray, X = ⟨(hexL l).toArray⟩ := ⟨_, rfl⟩
  obtain ⟨A, hA⟩ : ∃ A, A = (u8s l).toArray := ⟨_, rfl⟩
  have hXl : X.data.toList = hexL l := by rw [hX]
  have hXs : X.size ≤ maxLen := by
    rw [hX]; show (hexL l).toArray.size ≤ maxLen
    rw [List.size_toArray, hexL_length, hl]; unfold maxLen; omega
  rw [← hA]
  have HX := Lib.hid hX
  have HXL := Lib.hid hXl
  have HA := Lib.hid hA
  have HRA := Lib.hid (arr_row hA hl)
  have A0 := Lib.hid (show At (w.alloc (.cells A 22)) w.heap.size A from heap_alloc_new w _)
  have B0 := Lib.hid ((Below.refl w.heap.size w).alloc (Nat.le_refl _) (.cells A 22))
  clear hX hA hXl
  go_enter Try.func4, Try.ntmps4
  go_wp2_with fail
  generalize w.alloc (.cells A 22) = V0 at *
  refine (codes_any _).mono ?_
  rintro e w1 ⟨rfl, hb1⟩
  have A1 := Lib.hid (A0.out.below hb1)
  have B1 := Lib.hid (B0.out.trans (hb1.mono (Nat.le_of_lt A0.out.lt)))
  clear hb1 A0 B0
  go_wp2_with (first
    | (refine wpList_load_row rfl 22 (.tmp 2) rfl w.heap.size rfl 22 A (0, 0) _ A1.out Try.underlying22 rfl HRA.out.1 ?_)
    | (go_at_call 10; (with_reducible refine (hex_same l hl A HA.out X HX.out _).mono ?_); rintro e w2 ⟨rfl, hb2⟩; have A2 := Lib.hid (A1.out.below hb2); have B2 := Lib.hid (B1.out.trans (hb2.mono (Nat.le_of_lt A1.out.lt))); clear hb2)
    | (go_at_call 7; (with_reducible refine (parse_any X hXs _).mono ?_); rintro e w3 ⟨C, hC, rfl, hb3⟩; rw [HXL.out, pA_hex hl, ← HA.out] at hC; subst hC; rw [HXL.out, pE_hex hl]; have A3 := Lib.hid (A2.out.below hb3); have B3 := Lib.hid (B2.out.trans (hb3.mono (Nat.le_of_lt A2.out.lt))); have hlt3 : w.heap.size < w3.heap.size := A3.out.lt; clear hb3)
    | (refine Go.Great.wpList_allocTo rfl (some 5) rfl _ _ (alloc_run _ _ rfl _) ?_)
    | (refine wpList_store_row rfl 22 (.tmp 5) (.tmp 15) rfl w3.heap.size C rfl rfl 22 Z32 (heap_alloc_new w3 _) HRA.out.1 HRA.out.2.1 HRA.out.2.2 ?_; have A4 := Lib.hid (show At ((w3.alloc (.cells Z32 22)).setRow w3.heap.size C) w.heap.size C from (old_row hlt3 _ _).trans A3.out); have C4 := Lib.hid (show At ((w3.alloc (.cells Z32 22)).setRow w3.heap.size C) w3.heap.size C from setRow_heap' (heap_alloc_new w3 _)); have B4 := Lib.hid (below_setRow (B3.out.alloc (Nat.le_of_lt hlt3) (.cells Z32 22)) (Nat.le_of_lt hlt3) C); change wpList _ _ _ _ _ ((w3.alloc (.cells Z32 22)).setRow w3.heap.size C); generalize ((w3.alloc (.cells Z32 22)).setRow w3.heap.size C) = V4 at *))
  refine (parse_any s hs _).mono ?_
  rintro e w5 ⟨D, hD, rfl, hb5⟩
  have A5 := Lib.hid (A4.out.below hb5)
  have C5 := Lib.hid (C4.out.below hb5)
  have B5 := Lib.hid (B4.out.trans (hb5.mono (Nat.le_of_lt A4.out.lt)))
  have HD := Lib.hid hD
  have HRD := Lib.hid (arr_row hD (pA_length _))
  have hlt5 : w.heap.size < w5.heap.size := A5.out.lt
  have hlt6 : w3.heap.size < w5.heap.size := C5.out.lt
  clear hD hb5 A1 A2 A3 B1 B2 B3 A4 B4 C4 hlt3
  have hg := guard32
  have hq := equal_arr HA.out hl
  by_cases hok : pOk s.data.toList = true
  · have hE := (pE_yes hok).1
    have HOK := Lib.hid (hex_of_parse hok)
    clear hok
    go_wp2_with (first
      | (refine Go.Great.wpList_allocTo rfl (some 7) rfl _ _ (alloc_run _ _ rfl _) ?_)
      | (refine wpList_store_row rfl 22 (.tmp 7) (.tmp 20) rfl w5.heap.size D rfl rfl 22 Z32 (heap_alloc_new w5 _) HRD.out.1 HRD.out.2.1 HRD.out.2.2 ?_; have A6 := Lib.hid (show At ((w5.alloc (.cells Z32 22)).setRow w5.heap.size D) w.heap.size C from (old_row hlt5 _ _).trans A5.out); have C6 := Lib.hid (show At ((w5.alloc (.cells Z32 22)).setRow w5.heap.size D) w3.heap.size C from (old_row hlt6 _ _).trans C5.out); have D6 := Lib.hid (show At ((w5.alloc (.cells Z32 22)).setRow w5.heap.size D) w5.heap.size D from setRow_heap' (heap_alloc_new w5 _)); have B6 := Lib.hid (below_setRow (B5.out.alloc (Nat.le_of_lt hlt5) (.cells Z32 22)) (Nat.le_of_lt hlt5) D); change wpList _ _ _ _ _ ((w5.alloc (.cells Z32 22)).setRow w5.heap.size D); generalize ((w5.alloc (.cells Z32 22)).setRow w5.heap.size D) = V6 at *)
      | (refine wpList_load_row rfl 22 (.tmp 5) rfl w3.heap.size rfl 22 C (0, 0) _ C6.out Try.underlying22 rfl HRA.out.1 ?_)
      | (refine wpList_load_row rfl 22 (.tmp 2) rfl w.heap.size rfl 22 C (0, 0) _ A6.out Try.underlying22 rfl HRA.out.1 ?_)
      | (refine wpList_load_row_w (by rfl) 22 (.tmp 7) (by rfl) w5.heap.size (by rfl) 22 D (0, 0) _ D6.out Try.underlying22 rfl HRD.out.1 ?_)
      | (go_at_call 10; (with_reducible refine (hex_same (pA s.data.toList) (pA_length _) D HD.out s HOK.out _).mono ?_); rintro e w7 ⟨rfl, hb7⟩; have B7 := Lib.hid (B6.out.trans (hb7.mono (Nat.le_of_lt A6.out.lt)))))
    go_ret
    exact ⟨rfl, B7.out⟩
  · have hE := (pE_no hok).1
    clear hok
    go_wp2_with (first
      | (refine Go.Great.wpList_allocTo rfl (some 7) rfl _ _ (alloc_run _ _ rfl _) ?_)
      | (refine wpList_store_row rfl 22 (.tmp 7) (.tmp 20) rfl w5.heap.size D rfl rfl 22 Z32 (heap_alloc_new w5 _) HRD.out.1 HRD.out.2.1 HRD.out.2.2 ?_; have A6 := Lib.hid (show At ((w5.alloc (.cells Z32 22)).setRow w5.heap.size D) w.heap.size C from (old_row hlt5 _ _).trans A5.out); have C6 := Lib.hid (show At ((w5.alloc (.cells Z32 22)).setRow w5.heap.size D) w3.heap.size C from (old_row hlt6 _ _).trans C5.out); have B6 := Lib.hid (below_setRow (B5.out.alloc (Nat.le_of_lt hlt5) (.cells Z32 22)) (Nat.le_of_lt hlt5) D); change wpList _ _ _ _ _ ((w5.alloc (.cells Z32 22)).setRow w5.heap.size D); generalize ((w5.alloc (.cells Z32 22)).setRow w5.heap.size D) = V6 at *)
      | (refine wpList_load_row rfl 22 (.tmp 5) rfl w3.heap.size rfl 22 C (0, 0) _ C6.out Try.underlying22 rfl HRA.out.1 ?_)
      | (refine wpList_load_row rfl 22 (.tmp 2) rfl w.heap.size rfl 22 C (0, 0) _ A6.out Try.underlying22 rfl HRA.out.1 ?_))
    go_ret
    exact ⟨rfl, B6.out⟩
end Go.Proofs.Yteelickbdigpkaa.Hc
