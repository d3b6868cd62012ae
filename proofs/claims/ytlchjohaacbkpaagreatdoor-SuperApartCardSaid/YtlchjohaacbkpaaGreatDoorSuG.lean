/- The walk of the law SuperApart behind the laws' own question. -/
import Derived.Test.YtlchjohaacbkpaaGreatDoorSuE
import Derived.Test.YtlchjohaacbkpaaGreatDoorSuF
namespace Go.Proofs.YtlchjohaacbkpaaGreatDoor.Sp
set_option linter.unusedVariables false
set_option linter.unusedSimpArgs false
open Go.ChangeShapes Go.WideShapes Go.ChangeAt Go.RowKit
open Nd Rg
open BigFrame
open Pk (be num be_length u8s u8s_length)
theorem box_two (w : World) (c1 c2 : Array Value) (t1 t2 : TypeId) : ((w.alloc (.cells c1 t1)).alloc (.cells c2 t2)).heap[w.heap.size]? = some (.cells c1 t1 (0, 0)) ∧ ((w.alloc (.cells c1 t1)).alloc (.cells c2 t2)).heap[w.heap.size + 1]? = some (.cells c2 t2 (0, 0)) ∧
    Below w.heap.size w ((w.alloc (.cells c1 t1)).alloc (.cells c2 t2)) ∧ w.heap.size + 1 < ((w.alloc (.cells c1 t1)).alloc (.cells c2 t2)).heap.size := by
  refine ⟨?_, ?_, ((Below.refl _ _).alloc (Nat.le_refl _) _).alloc (by simp) _, by simp⟩
  · have h1 := heap_alloc_new w (.cells c1 t1)
    have h2 : Below (w.heap.size + 1) (w.alloc (.cells c1 t1)) ((w.alloc (.cells c1 t1)).alloc (.cells c2 t2)) := (Below.refl _ _).alloc (by simp) _
    exact (h2.block _ (Nat.lt_succ_self _)).trans h1
  · have := heap_alloc_new (w.alloc (.cells c1 t1)) (.cells c2 t2)
    simpa using this
/-- a whole struct's load, its row known -/
theorem row_run {P : Program} {ev : Operand → Value} {o : Oper} {w : World} (ty : TypeId) {x : Operand} (ho : o.op = .load ty x) (b : Nat) (hx : ev x = .pointer (some ⟨b, 0, none⟩)) (cs : Array Value) (t : TypeId) (fr : Nat × Nat) (d : TypeDesc) (hg : w.heap[b]? = some (.cells cs t fr))
    (hu : P.underlying ty = some d) (hd : (match d with | .struct _ | .array _ _ => true | _ => false) = true) (hi : (P.info? ty).map (·.size) = some cs.size) : (execOp ev o).run P w = .ok (.value (.agg cs)) w := by
  unfold execOp
  simp only [ho, hx, Instr.loadAt, Instr.sureAddr, Sem.run_bind, Sem.run_pure, Result.andThen_ok, run_loadVar_row w b t ty cs fr d hg hu hd hi]
theorem gen_apart (G G2 : Nat) (hG : G < 18446744073709551616) (hG2 : G2 < 18446744073709551616) : ∃ (m : Nat) (γ : Bool), IntKind.u64.wrap ((G : Int) - (G2 : Int)) = (m : Int) ∧ ((((m : Int) % 2) == 0) : Bool) = γ ∧ ((((G % 2 : Nat) : Int) == ((G2 % 2 : Nat) : Int)) : Bool) = γ := by
  have e : IntKind.u64.wrap ((G : Int) - (G2 : Int)) = ((G : Int) - (G2 : Int)) % 18446744073709551616 := by simp [IntKind.wrap, IntKind.bits, IntKind.signed]
  refine ⟨((((G : Int) - (G2 : Int)) % 18446744073709551616)).toNat, _, by rw [e]; omega, rfl, ?_⟩
  rw [Bool.eq_iff_iff, beq_iff_eq, beq_iff_eq]
  omega
set_option maxRecDepth 100000 in
set_option maxHeartbeats 4000000 in
theorem superApart_walk (HLV : ∀ w, Calls Tryz.prog 30 #[] w fun e w' => e = .returned (.bool true) ∧ Below w.heap.size w w') (w : World) (p : Su) (hl : p.lim) (q : Su) (hk : q.lim) :
    Calls Tryz.prog 8 #[vS p, vS q] w fun e w' => e = .returned (.bool true) ∧ Below w.heap.size w w' := by
  have HL := Lib.hid HLV
  clear HLV
  have CI := Lib.hid (fun w => encode_su p hl w)
  have CK := Lib.hid (fun w => encode_su q hk w)
  have HIN := Lib.hid (fun h : okS p = false => chS_no h)
  have HIY := Lib.hid (fun h : okS p = true => (chS_yes h).1)
  have HKN := Lib.hid (fun h : okS q = false => chS_no h)
  have HKY := Lib.hid (fun h : okS q = true => (chS_yes h).1)
  have SA := Lib.hid (fun w => slot_any p w)
  have SB := Lib.hid (fun w => slot_any q w)
  have HC35 := Lib.hid (infoSa hl.2.2.2)
  have HD35 := Lib.hid (infoSa hk.2.2.2)
  have EQ := Lib.hid (fun w => eq_super p q hl.2.2.2 hk.2.2.2 w)
  have HA := Lib.hid (fun (h1 : okS p = true) (h2 : okS q = true) => (by rw [str_same, Bool.eq_iff_iff, decide_eq_true_iff, eqS_iff]; exact enS_inj hl hk h1 h2 : ((enS p).toList == (enS q).toList) = eqS p q))
  obtain ⟨m, γ, hm, hd, hs⟩ := gen_apart p.G q.G hl.2.1 hk.2.1
  have HM := Lib.hid hm
  have HD := Lib.hid hd
  have HS := Lib.hid (show ((((slotS p : Nat) : Int) == ((slotS q : Nat) : Int)) : Bool) = γ from hs)
  clear hm hd hs
  have hc1 := Lib.hid (esS_1 p)
  have he1 := Lib.hid (esS_1 q)
  unfold vS at CI CK SA SB EQ ⊢
  obtain ⟨C, hC⟩ : ∃ C, (esS p).toArray = C := ⟨_, rfl⟩
  obtain ⟨D, hD⟩ : ∃ C, (esS q).toArray = C := ⟨_, rfl⟩
  rw [hC] at CI SA EQ HC35 hc1 ⊢
  rw [hD] at CK SB EQ HD35 he1 ⊢
  clear hC hD
  obtain ⟨a, ha⟩ : ∃ a, enS p = a := ⟨_, rfl⟩
  obtain ⟨x, hx⟩ : ∃ a, chS p = a := ⟨_, rfl⟩
  obtain ⟨b, hb⟩ : ∃ a, enS q = a := ⟨_, rfl⟩
  obtain ⟨t, ht⟩ : ∃ a, chS q = a := ⟨_, rfl⟩
  obtain ⟨s1, hs1⟩ : ∃ a, slotS p = a := ⟨_, rfl⟩
  obtain ⟨s2, hs2⟩ : ∃ a, slotS q = a := ⟨_, rfl⟩
  obtain ⟨β, hβ⟩ : ∃ a, eqS p q = a := ⟨_, rfl⟩
  obtain ⟨bi, hbi⟩ : ∃ q, okS p = q := ⟨_, rfl⟩
  obtain ⟨bk, hbk⟩ : ∃ u, okS q = u := ⟨_, rfl⟩
  obtain ⟨G, hG⟩ : ∃ u, p.G = u := ⟨_, rfl⟩
  obtain ⟨G2, hG2⟩ : ∃ u, q.G = u := ⟨_, rfl⟩
  rw [ha, hx] at CI
  rw [hx, ha, hbi] at HIN
  rw [hx, hbi] at HIY
  rw [hb, ht] at CK
  rw [ht, hb, hbk] at HKN
  rw [ht, hbk] at HKY
  rw [hs1] at SA HS
  rw [hs2] at SB HS
  rw [hβ] at EQ
  rw [hbi, hbk, ha, hb, hβ] at HA
  rw [hG] at HM hc1
  rw [hG2] at HM he1
  clear ha hx hb ht hs1 hs2 hβ hbi hbk hG hG2 hl hk
  have TB := Lib.hid (box_two w C D 44 44)
  go_enter Tryz.func8, Tryz.ntmps8
  go_wp2_with fail
  change Calls _ _ _ ((w.alloc (.cells C 44)).alloc (.cells D 44)) _
  generalize ((w.alloc (.cells C 44)).alloc (.cells D 44)) = W at *
  refine (HL.out _).mono ?_
  rintro e w1 ⟨rfl, hb⟩
  have R1 := Lib.hid ((hb.block _ (by have := TB.out.2.2.2; omega)).trans TB.out.1)
  have Q1 := Lib.hid ((hb.block _ TB.out.2.2.2).trans TB.out.2.1)
  have B1 := Lib.hid (TB.out.2.2.1.trans (hb.mono TB.out.2.2.1.size))
  have l1 : w.heap.size + 1 < w1.heap.size := Nat.lt_of_lt_of_le TB.out.2.2.2 hb.size
  clear hb TB HL
  go_wp2_with (refine wpList_load_row rfl 44 (.tmp 2) rfl w.heap.size rfl 44 C (0, 0) _ R1.out Tryz.underlying44 rfl HC35.out ?_)
  refine (CI.out _).mono ?_
  rintro e w2 ⟨rfl, hb⟩
  have R2 := Lib.hid ((hb.block _ (by omega)).trans R1.out)
  have Q2 := Lib.hid ((hb.block _ l1).trans Q1.out)
  have B2 := Lib.hid (B1.out.trans (hb.mono B1.out.size))
  have l2 := Nat.lt_of_lt_of_le l1 hb.size
  clear hb R1 Q1 B1 CI
  go_wp2_with (refine wpList_load_row rfl 44 (.tmp 3) rfl (w.heap.size + 1) rfl 44 D (0, 0) _ Q2.out Tryz.underlying44 rfl HD35.out ?_)
  refine (CK.out _).mono ?_
  rintro e w5 ⟨rfl, hb⟩
  have r0 := (hb.block _ (by omega)).trans R2.out
  have r1 := (hb.block _ l2).trans Q2.out
  have B5 := Lib.hid (B2.out.trans (hb.mono B2.out.size))
  have k1 := Nat.lt_of_lt_of_le l2 hb.size
  have k0 : w.heap.size < w5.heap.size := by omega
  clear hb R2 Q2 B2 CK
  cases bi
  · obtain ⟨f1, f2⟩ := HIN.out rfl
    clear HIN HIY HKN HKY HA
    subst f1 f2
    go_wp2
    go_ret
    exact ⟨rfl, B5.out⟩
  have f1 := HIY.out rfl
  cases bk
  · obtain ⟨f3, f4⟩ := HKN.out rfl
    clear HIN HIY HKN HKY HA
    subst f1 f3 f4
    go_wp2
    go_ret
    exact ⟨rfl, B5.out⟩
  have f3 := HKY.out rfl
  have EA := Lib.hid (HA.out rfl rfl)
  clear HIN HIY HKN HKY HA
  subst f1 f3
  have c1 : w5.cell? ⟨w.heap.size, 1, none⟩ = some (.int .u64 G) := (cell_of_row w5 w.heap.size 1 C 44 (0, 0) r0).trans hc1.out
  have e1 : w5.cell? ⟨w.heap.size + 1, 1, none⟩ = some (.int .u64 G2) := (cell_of_row w5 (w.heap.size + 1) 1 D 44 (0, 0) r1).trans he1.out
  go_wp2_with fail
  refine wp_region_G (fun w' => Below w5.heap.size w5 w') (by kernel_rfl) (by kernel_rfl) (Below.refl _ _).drew ?_
  refine wpG_val (.string a) rfl (by rfl) (fun w' hSw => by go_simp) ?_
  simp only [List.setIfInBounds_toArray, List.set_cons_zero, List.set_cons_succ]
  refine wpG_val (.string b) rfl (by rfl) (fun w' hSw => by go_simp) ?_
  simp only [List.setIfInBounds_toArray, List.set_cons_zero, List.set_cons_succ]
  refine wpG_val (.bool β) rfl (by rfl) (fun w' hSw => by have h := EA.out; go_simp) ?_
  simp only [List.setIfInBounds_toArray, List.set_cons_zero, List.set_cons_succ]
  refine wpG_val (.agg C) rfl (by rfl) (fun w' hSw => by have r := (hSw.block _ k0).trans r0; exact row_run 44 rfl w.heap.size rfl _ _ (0, 0) _ r Tryz.underlying44 rfl HC35.out) ?_
  simp only [List.setIfInBounds_toArray, List.set_cons_zero, List.set_cons_succ]
  refine wpG_val (.agg D) rfl (by rfl) (fun w' hSw => by have r := (hSw.block _ k1).trans r1; exact row_run 44 rfl (w.heap.size + 1) rfl _ _ (0, 0) _ r Tryz.underlying44 rfl HD35.out) ?_
  simp only [List.setIfInBounds_toArray, List.set_cons_zero, List.set_cons_succ]
  refine wpG_val (.bool β) rfl (by rfl) (fun w' hSw => by have h := EQ.out; have g := guardS; go_simp) ?_
  simp only [List.setIfInBounds_toArray, List.set_cons_zero, List.set_cons_succ]
  refine wpG_val (.bool true) rfl (by rfl) (fun w' hSw => by go_simp) ?_
  simp only [List.setIfInBounds_toArray, List.set_cons_zero, List.set_cons_succ]
  refine wpG_val (.bool true) rfl (by rfl) (fun w' hSw => by go_simp) ?_
  simp only [List.setIfInBounds_toArray, List.set_cons_zero, List.set_cons_succ]
  refine wpG_val (.agg C) rfl (by rfl) (fun w' hSw => by have r := (hSw.block _ k0).trans r0; exact row_run 44 rfl w.heap.size rfl _ _ (0, 0) _ r Tryz.underlying44 rfl HC35.out) ?_
  simp only [List.setIfInBounds_toArray, List.set_cons_zero, List.set_cons_succ]
  refine wpG_call (.int .i64 (s1 : Int)) 33 #[.agg C] rfl (by rfl) (fun w' => by go_simp) (fun w' hSw => (SA.out w').mono fun e w2 h => ⟨h.1, hSw.trans (h.2.mono hSw.size)⟩) ?_
  simp only [List.setIfInBounds_toArray, List.set_cons_zero, List.set_cons_succ]
  refine wpG_val (.agg D) rfl (by rfl) (fun w' hSw => by have r := (hSw.block _ k1).trans r1; exact row_run 44 rfl (w.heap.size + 1) rfl _ _ (0, 0) _ r Tryz.underlying44 rfl HD35.out) ?_
  simp only [List.setIfInBounds_toArray, List.set_cons_zero, List.set_cons_succ]
  refine wpG_call (.int .i64 (s2 : Int)) 33 #[.agg D] rfl (by rfl) (fun w' => by go_simp) (fun w' hSw => (SB.out w').mono fun e w2 h => ⟨h.1, hSw.trans (h.2.mono hSw.size)⟩) ?_
  simp only [List.setIfInBounds_toArray, List.set_cons_zero, List.set_cons_succ]
  refine wpG_val (.bool γ) rfl (by rfl) (fun w' hSw => by have h := HS.out; go_simp) ?_
  simp only [List.setIfInBounds_toArray, List.set_cons_zero, List.set_cons_succ]
  refine wpG_val (.pointer (some ⟨w.heap.size, 1, none⟩)) rfl (by rfl) (fun w' hSw => by go_simp) ?_
  simp only [List.setIfInBounds_toArray, List.set_cons_zero, List.set_cons_succ]
  refine wpG_val (.int .u64 (G : Int)) rfl (by rfl) (fun w' hSw => by have c := (Below.cell hSw (p := ⟨w.heap.size, 1, none⟩) k0).trans c1; go_simp) ?_
  simp only [List.setIfInBounds_toArray, List.set_cons_zero, List.set_cons_succ]
  refine wpG_val (.pointer (some ⟨(w.heap.size + 1), 1, none⟩)) rfl (by rfl) (fun w' hSw => by go_simp) ?_
  simp only [List.setIfInBounds_toArray, List.set_cons_zero, List.set_cons_succ]
  refine wpG_val (.int .u64 (G2 : Int)) rfl (by rfl) (fun w' hSw => by have c := (Below.cell hSw (p := ⟨w.heap.size + 1, 1, none⟩) k1).trans e1; go_simp) ?_
  simp only [List.setIfInBounds_toArray, List.set_cons_zero, List.set_cons_succ]
  refine wpG_val (.int .u64 (m : Int)) rfl (by rfl) (fun w' hSw => by have h := HM.out; go_simp) ?_
  simp only [List.setIfInBounds_toArray, List.set_cons_zero, List.set_cons_succ]
  refine wpG_val (.int .u64 ((m : Int) % 2)) rfl (by rfl) (fun w' hSw => by have h : (m : Int).tmod 2 = (m : Int) % 2 := Int.tmod_eq_emod_of_nonneg (by omega); go_simp) ?_
  simp only [List.setIfInBounds_toArray, List.set_cons_zero, List.set_cons_succ]
  refine wpG_val (.bool γ) rfl (by rfl) (fun w' hSw => by have h := HD.out; go_simp) ?_
  simp only [List.setIfInBounds_toArray, List.set_cons_zero, List.set_cons_succ]
  refine wpG_val (.bool true) rfl (by rfl) (fun w' hSw => by go_simp) ?_
  simp only [List.setIfInBounds_toArray, List.set_cons_zero, List.set_cons_succ]
  refine wpG_val (.bool true) rfl (by rfl) (fun w' hSw => by go_simp) ?_
  simp only [List.setIfInBounds_toArray, List.set_cons_zero, List.set_cons_succ]
  refine wpG_val (.bool true) rfl (by rfl) (fun w' hSw => by go_simp) ?_
  simp only [List.setIfInBounds_toArray, List.set_cons_zero, List.set_cons_succ]
  refine wpG_nil ?_
  intro wS hSw
  go_wp2
  go_ret
  exact ⟨rfl, B5.out.trans (hSw.mono B5.out.size)⟩
end Go.Proofs.YtlchjohaacbkpaaGreatDoor.Sp
