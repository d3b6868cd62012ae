/- Contract of the document's Copy of a node. -/
import Derived.Test.YtmibgdlmhjkpfaaDoorNdI
namespace Go.Proofs.YtmibgdlmhjkpfaaDoor.Nd
set_option linter.unusedVariables false
set_option linter.unusedSimpArgs false
open Go.ChangeShapes Go.WideShapes Go.ChangeAt Go.RowKit
open Ar Rg
open BigFrame
open Pk (be num be_length u8s u8s_length)
open It (str_le below_drewN)
section
variable {P : Program}
/-- a new row of nothing -/
theorem run_slice0 (w : World) (S e : TypeId) (i : TypeInfo) (hS : P.underlying S = some (.slice e)) (hi : P.info? e = some i) :
    (Instr.buildSlice S 0 #[]).run P w = .ok (.slice (some ⟨w.heap.size, 0, none⟩) 0 0) (w.alloc (.cells #[] e)) := by
  have hu := run_underlying (P := P) hS w
  have hso := run_sizeOf (P := P) w hi
  unfold Instr.buildSlice
  rw [Sem.run_bind, hu, Result.andThen_ok]
  simp only []
  rw [Sem.run_bind, hso, Result.andThen_ok]
  simp only [Nat.zero_mul]
  rw [if_neg (by omega), if_pos trivial]
  simp only [pure_bind]
  rw [Instr.fill.eq_1]
  have hr0 : Array.range 0 = #[] := by simp
  simp [newRow, newObj, hr0]
  rfl
variable {o : Oper} {a : Act} {Q : Exit → Act → World → Prop} {ops : Array Oper} {rest : List Oper}
theorem wpList_slice0 {w : World} (hgd : o.guard = none) (S e : TypeId) (i : TypeInfo) (ho : o.op = .buildSlice S 0 #[]) (hS : P.underlying S = some (.slice e)) (hi : P.info? e = some i)
    (h : wpList P ops Q rest (a.put o.dst (.slice (some ⟨w.heap.size, 0, none⟩) 0 0)) (w.alloc (.cells #[] e))) : wpList P ops Q (o :: rest) a w :=
  wpList_plain hgd fun K hK => by
    unfold Oper.wp execOp
    simp only [ho, List.map_toArray, List.map_nil, Sem.run_bind, Sem.run_pure, Result.andThen_ok, run_slice0 w S e i hS hi]
    exact hK _ _ h
end
theorem mk_empty {α : Type} {enc : α → List Value} {k : Nat} {e : TypeId} {w wr : World} (hb : Below w.heap.size w wr) : Mk enc k e w (wr.alloc (.cells #[] e)) (.slice (some ⟨wr.heap.size, 0, none⟩) 0 0) [] :=
  ⟨World.ownsRow_made wr #[] 0 hb.size (Nat.zero_le _) (by simp), hb.alloc hb.size _⟩
theorem row_lt' {w : World} {b : Nat} {o : Obj} (h : w.heap[b]? = some o) : b < w.heap.size := row_lt h
set_option maxRecDepth 100000 in
set_option maxHeartbeats 4000000 in
theorem copy_any (n : Nd) (h1 : n.I.length * 32 ≤ 140737488351232) (h2 : n.K.length * 56 ≤ 140737488351232) (h3 : n.V.length * 88 ≤ 140737488351232) (cs : Array Value) (w : World) (hn : NdAt w cs n) :
    Calls Tryd.prog 14 #[.agg cs] w fun e w' => ∃ ds, e = .returned (.agg ds) ∧ NdOwn w w' ds n := by
  obtain ⟨AI, nI, dI, AK, nK, dK, AV, nV, dV, rfl, hI, hK, hV, bI, bK, bV, lI, lK, lV⟩ := hn
  obtain ⟨kd, I, K, V⟩ := n
  dsimp only at hI hK hV lI lK lV h1 h2 h3 ⊢
  have HI := Lib.hid hI
  have HK := Lib.hid hK
  have HV := Lib.hid hV
  have HLI := Lib.hid lI
  have HLK := Lib.hid lK
  have HLV := Lib.hid lV
  rw [← hI] at h1
  rw [← hK] at h2
  rw [← hV] at h3
  have HBI := Lib.hid h1
  have HBK := Lib.hid h2
  have HBV := Lib.hid h3
  obtain ⟨R1, R2, S0, Z0⟩ := two_new w #[.int .u8 (kd : Int), .slice AI nI dI, .slice AK nK dK, .slice AV nV dV] zN 27 27
  have HN0 := Lib.hid R1
  have HR0 := Lib.hid R2
  have HB0 := Lib.hid S0
  clear R1 R2 S0 Z0 hI hK hV lI lK lV h1 h2 h3 bI bK bV
  obtain ⟨iI, eI1, eI2, eI3, eI4⟩ := info_parts infI
  obtain ⟨iK, eK1, eK2, eK3, eK4⟩ := info_parts infK
  obtain ⟨iV, eV1, eV2, eV3, eV4⟩ := info_parts infV
  have GI := Lib.hid (And.intro eI1 (And.intro eI2 (And.intro eI3 eI4)))
  have GK := Lib.hid (And.intro eK1 (And.intro eK2 (And.intro eK3 eK4)))
  have GV := Lib.hid (And.intro eV1 (And.intro eV2 (And.intro eV3 eV4)))
  clear eI1 eI2 eI3 eI4 eK1 eK2 eK3 eK4 eV1 eV2 eV3 eV4
  go_enter Tryd.func14, Tryd.ntmps14
  go_wp2_with (first
    | (refine wpList_slice0 rfl 23 43 iI rfl Tryd.underlying23 GI.out.1 ?_; generalize (w.alloc _).alloc _ = W0 at *; have ME0 := Lib.hid (show MkI w (W0.alloc (.cells #[] 43)) (.slice (some ⟨W0.heap.size, 0, none⟩) 0 0) [] from mk_empty HB0.out); have hal : Below W0.heap.size W0 (W0.alloc (.cells #[] 43)) := (Below.refl _ _).alloc (Nat.le_refl _) _; have HNa0 := Lib.hid ((hal.block _ (row_lt HN0.out)).trans HN0.out); have HRa0 := Lib.hid ((hal.block _ (row_lt HR0.out)).trans HR0.out); have HBa0 := Lib.hid (HB0.out.trans (hal.mono HB0.out.size)); have HZ0 := Lib.hid (show w.heap.size ≤ W0.heap.size from HB0.out.size); have HG0 := Lib.hid (heap_alloc_new W0 (.cells #[] 43)); clear hal; generalize W0.alloc _ = Y0 at *; generalize W0.heap.size = g0 at *; have c0 : Y0.cell? ⟨w.heap.size, 1, none⟩ = some (.slice AI nI dI) := cell_of_row _ _ 1 _ _ _ HNa0.out)
    | (refine wpList_cat (enc := It.enc) (k := 2) (e := 43) (D := []) 23 iI _ 32 Tryd.underlying23 GI.out.1 GI.out.2.1 GI.out.2.2.1 GI.out.2.2.2 rfl (by decide) It.enc_len enI_one ME0.out nI dI HI.out (HLI.out.below HBa0.out) (by have := HBI.out; unfold maxLen; simp; omega) (by have := HBI.out; simp; omega) rfl (.tmp 3) (.tmp 5) rfl rfl rfl ?_; intro v w4 hm hg; rw [List.nil_append] at hm; obtain ⟨A0, n0, c0x, rfl⟩ : ∃ A n c, v = .slice A n c := (by obtain ⟨A, c, h, _⟩ := hm.ls It.enc_len; exact ⟨A, _, c, h⟩); have hoN : (Value.slice (some ⟨g0, 0, none⟩) 0 0).ownBlock ≠ some w.heap.size := ME0.out.off HNa0.out (by decide); have hoR : (Value.slice (some ⟨g0, 0, none⟩) 0 0).ownBlock ≠ some (w.heap.size + 1) := ME0.out.off HRa0.out (by decide); have tN := (hg.block _ (row_lt HNa0.out) (fun e => hoN e.symm)).trans HNa0.out; have tR := (hg.block _ (row_lt HRa0.out) (fun e => hoR e.symm)).trans HRa0.out; have hs := grown_setCell w4 ⟨w.heap.size, 1, none⟩ (.slice A0 n0 c0x); have HN1 := Lib.hid (show (w4.setCell ⟨w.heap.size, 1, none⟩ (.slice A0 n0 c0x)).heap[w.heap.size]? = some (.cells #[.int .u8 (kd : Int), .slice A0 n0 c0x, .slice AK nK dK, .slice AV nV dV] 27 (0, 0)) by simp [World.setCell, tN, Array.getElem?_modify]); have HR1 := Lib.hid ((hs.block _ (row_lt tR) (fun e => absurd (Option.some.inj e) (show ¬ w.heap.size + 1 = w.heap.size by omega))).trans tR); have MI1 := Lib.hid (hm.grownQ hs (Nat.le_refl _) (hm.off tN (by decide))); have HB1 := Lib.hid (hm.2.grown hs hm.2.size (fun k hk => by cases hk; exact Nat.le_refl _)); have d0 : w4.cell? ⟨w.heap.size, 1, none⟩ = some (.slice AI nI dI) := cell_of_row _ _ 1 _ _ _ tN; have f0 : w4.frozen? ⟨w.heap.size, 1, none⟩ = false := frozen_of_row _ _ _ _ _ tN; clear hm hg hoN hoR tN tR hs c0)
    | (refine wpList_slice0 rfl 24 47 iK rfl Tryd.underlying24 GK.out.1 ?_; generalize World.setCell _ _ _ = W1 at *; have ME1 := Lib.hid (show MkK w (W1.alloc (.cells #[] 47)) (.slice (some ⟨W1.heap.size, 0, none⟩) 0 0) [] from mk_empty HB1.out); have hal : Below W1.heap.size W1 (W1.alloc (.cells #[] 47)) := (Below.refl _ _).alloc (Nat.le_refl _) _; have HNa1 := Lib.hid ((hal.block _ (row_lt HN1.out)).trans HN1.out); have HRa1 := Lib.hid ((hal.block _ (row_lt HR1.out)).trans HR1.out); have HBa1 := Lib.hid (HB1.out.trans (hal.mono HB1.out.size)); have MIa1 := Lib.hid (MI1.out.go hal); have HZ1 := Lib.hid (show w.heap.size ≤ W1.heap.size from HB1.out.size); have HG1 := Lib.hid (heap_alloc_new W1 (.cells #[] 47)); clear hal; generalize W1.alloc _ = Y1 at *; generalize W1.heap.size = g1 at *; have c1 : Y1.cell? ⟨w.heap.size, 2, none⟩ = some (.slice AK nK dK) := cell_of_row _ _ 2 _ _ _ HNa1.out)
    | (refine wpList_cat (enc := ecK) (k := 34) (e := 47) (D := []) 24 iK _ 56 Tryd.underlying24 GK.out.1 GK.out.2.1 GK.out.2.2.1 GK.out.2.2.2 rfl (by decide) ecK_len ecK_one ME1.out nK dK HK.out (HLK.out.below HBa1.out) (by have := HBK.out; unfold maxLen; simp; omega) (by have := HBK.out; simp; omega) rfl (.tmp 8) (.tmp 10) rfl rfl rfl ?_; intro v w4 hm hg; rw [List.nil_append] at hm; obtain ⟨A1, n1, c1x, rfl⟩ : ∃ A n c, v = .slice A n c := (by obtain ⟨A, c, h, _⟩ := hm.ls ecK_len; exact ⟨A, _, c, h⟩); have hoN : (Value.slice (some ⟨g1, 0, none⟩) 0 0).ownBlock ≠ some w.heap.size := ME1.out.off HNa1.out (by decide); have hoR : (Value.slice (some ⟨g1, 0, none⟩) 0 0).ownBlock ≠ some (w.heap.size + 1) := ME1.out.off HRa1.out (by decide); have tN := (hg.block _ (row_lt HNa1.out) (fun e => hoN e.symm)).trans HNa1.out; have tR := (hg.block _ (row_lt HRa1.out) (fun e => hoR e.symm)).trans HRa1.out; have hs := grown_setCell w4 ⟨w.heap.size, 2, none⟩ (.slice A1 n1 c1x); have HN2 := Lib.hid (show (w4.setCell ⟨w.heap.size, 2, none⟩ (.slice A1 n1 c1x)).heap[w.heap.size]? = some (.cells #[.int .u8 (kd : Int), .slice A0 n0 c0x, .slice A1 n1 c1x, .slice AV nV dV] 27 (0, 0)) by simp [World.setCell, tN, Array.getElem?_modify]); have HR2 := Lib.hid ((hs.block _ (row_lt tR) (fun e => absurd (Option.some.inj e) (show ¬ w.heap.size + 1 = w.heap.size by omega))).trans tR); have MK2 := Lib.hid (hm.grownQ hs (Nat.le_refl _) (hm.off tN (by decide))); have MI2 := Lib.hid (((MIa1.out.grownQ (q := g1) hg HZ1.out (MIa1.out.off HG1.out (by decide))).grownQ hs (Nat.le_refl _) (MIa1.out.off HNa1.out (by decide)))); have HB2 := Lib.hid (hm.2.grown hs hm.2.size (fun k hk => by cases hk; exact Nat.le_refl _)); have d1 : w4.cell? ⟨w.heap.size, 2, none⟩ = some (.slice AK nK dK) := cell_of_row _ _ 2 _ _ _ tN; have f1 : w4.frozen? ⟨w.heap.size, 2, none⟩ = false := frozen_of_row _ _ _ _ _ tN; clear hm hg hoN hoR tN tR hs c1)
    | (refine wpList_slice0 rfl 25 62 iV rfl Tryd.underlying25 GV.out.1 ?_; generalize World.setCell _ _ _ = W2 at *; have ME2 := Lib.hid (show MkV w (W2.alloc (.cells #[] 62)) (.slice (some ⟨W2.heap.size, 0, none⟩) 0 0) [] from mk_empty HB2.out); have hal : Below W2.heap.size W2 (W2.alloc (.cells #[] 62)) := (Below.refl _ _).alloc (Nat.le_refl _) _; have HNa2 := Lib.hid ((hal.block _ (row_lt HN2.out)).trans HN2.out); have HRa2 := Lib.hid ((hal.block _ (row_lt HR2.out)).trans HR2.out); have HBa2 := Lib.hid (HB2.out.trans (hal.mono HB2.out.size)); have MIa2 := Lib.hid (MI2.out.go hal); have MKa2 := Lib.hid (MK2.out.go hal); have HZ2 := Lib.hid (show w.heap.size ≤ W2.heap.size from HB2.out.size); have HG2 := Lib.hid (heap_alloc_new W2 (.cells #[] 62)); clear hal; generalize W2.alloc _ = Y2 at *; generalize W2.heap.size = g2 at *; have c2 : Y2.cell? ⟨w.heap.size, 3, none⟩ = some (.slice AV nV dV) := cell_of_row _ _ 3 _ _ _ HNa2.out)
    | (refine wpList_cat (enc := ecV) (k := 37) (e := 62) (D := []) 25 iV _ 88 Tryd.underlying25 GV.out.1 GV.out.2.1 GV.out.2.2.1 GV.out.2.2.2 rfl (by decide) ecV_len ecV_one ME2.out nV dV HV.out (HLV.out.below HBa2.out) (by have := HBV.out; unfold maxLen; simp; omega) (by have := HBV.out; simp; omega) rfl (.tmp 13) (.tmp 15) rfl rfl rfl ?_; intro v w4 hm hg; rw [List.nil_append] at hm; obtain ⟨A2, n2, c2x, rfl⟩ : ∃ A n c, v = .slice A n c := (by obtain ⟨A, c, h, _⟩ := hm.ls ecV_len; exact ⟨A, _, c, h⟩); have hoN : (Value.slice (some ⟨g2, 0, none⟩) 0 0).ownBlock ≠ some w.heap.size := ME2.out.off HNa2.out (by decide); have hoR : (Value.slice (some ⟨g2, 0, none⟩) 0 0).ownBlock ≠ some (w.heap.size + 1) := ME2.out.off HRa2.out (by decide); have tN := (hg.block _ (row_lt HNa2.out) (fun e => hoN e.symm)).trans HNa2.out; have tR := (hg.block _ (row_lt HRa2.out) (fun e => hoR e.symm)).trans HRa2.out; have hs := grown_setCell w4 ⟨w.heap.size, 3, none⟩ (.slice A2 n2 c2x); have HN3 := Lib.hid (show (w4.setCell ⟨w.heap.size, 3, none⟩ (.slice A2 n2 c2x)).heap[w.heap.size]? = some (.cells #[.int .u8 (kd : Int), .slice A0 n0 c0x, .slice A1 n1 c1x, .slice A2 n2 c2x] 27 (0, 0)) by simp [World.setCell, tN, Array.getElem?_modify]); have HR3 := Lib.hid ((hs.block _ (row_lt tR) (fun e => absurd (Option.some.inj e) (show ¬ w.heap.size + 1 = w.heap.size by omega))).trans tR); have MV3 := Lib.hid (hm.grownQ hs (Nat.le_refl _) (hm.off tN (by decide))); have MI3 := Lib.hid (((MIa2.out.grownQ (q := g2) hg HZ2.out (MIa2.out.off HG2.out (by decide))).grownQ hs (Nat.le_refl _) (MIa2.out.off HNa2.out (by decide)))); have MK3 := Lib.hid (((MKa2.out.grownQ (q := g2) hg HZ2.out (MKa2.out.off HG2.out (by decide))).grownQ hs (Nat.le_refl _) (MKa2.out.off HNa2.out (by decide)))); have HB3 := Lib.hid (hm.2.grown hs hm.2.size (fun k hk => by cases hk; exact Nat.le_refl _)); have d2 : w4.cell? ⟨w.heap.size, 3, none⟩ = some (.slice AV nV dV) := cell_of_row _ _ 3 _ _ _ tN; have f2 : w4.frozen? ⟨w.heap.size, 3, none⟩ = false := frozen_of_row _ _ _ _ _ tN; clear hm hg hoN hoR tN tR hs c2)
    | (refine wpList_load_row rfl 27 (.tmp 1) rfl w.heap.size rfl 27 _ (0, 0) _ HN3.out Tryd.underlying27 rfl (info4 rfl) ?_)
    | (refine wpList_store_row rfl 27 (.tmp 2) (.tmp 18) rfl (w.heap.size + 1) #[.int .u8 (kd : Int), .slice A0 n0 c0x, .slice A1 n1 c1x, .slice A2 n2 c2x] rfl rfl 27 zN HR3.out (info4 rfl) rfl (four_cells _ _ _ _ rfl rfl rfl rfl) ?_))
  have hg2 := setRow_heap' (cs := #[.int .u8 (kd : Int), .slice A0 n0 c0x, .slice A1 n1 c1x, .slice A2 n2 c2x]) HR3.out
  refine bodyPost_ret (v := .agg #[.int .u8 (kd : Int), .slice A0 n0 c0x, .slice A1 n1 c1x, .slice A2 n2 c2x]) (results_cell_row rfl _ _ (w.heap.size + 1) 27 _ (0, 0) _ rfl hg2 Tryd.underlying27 rfl (info4 rfl)) rfl ?_
  exact ⟨_, rfl, ⟨_, _, _, rfl, MI3.out.grownQ (grown_setRow _ _ _) (Nat.le_succ _) (MI3.out.off HR3.out (by decide)), MK3.out.grownQ (grown_setRow _ _ _) (Nat.le_succ _) (MK3.out.off HR3.out (by decide)), MV3.out.grownQ (grown_setRow _ _ _) (Nat.le_succ _) (MV3.out.off HR3.out (by decide))⟩⟩
end Go.Proofs.YtmibgdlmhjkpfaaDoor.Nd
