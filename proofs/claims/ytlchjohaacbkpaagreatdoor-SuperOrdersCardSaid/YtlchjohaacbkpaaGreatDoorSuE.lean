/- Contracts of package super: Decode. -/
import Derived.Test.YtlchjohaacbkpaaGreatDoorSuD
namespace Go.Proofs.YtlchjohaacbkpaaGreatDoor.Sp
set_option linter.unusedVariables false
set_option linter.unusedSimpArgs false
open Go.ChangeShapes Go.WideShapes Go.ChangeAt Go.RowKit
open Nd Rg
open BigFrame
open Pk (be num be_length u8s u8s_length)
theorem results_row2 {P : Program} {fn : Func} {p u : Tmp} {ty : TypeId} (h : fn.results = #[.cell p ty, .tmp u]) (tmps : Array Value) (w : World) (g : Nat) (t : TypeId) (cs : Array Value) (fr : Nat × Nat) (d : TypeDesc)
    (hp : tmps.getD p undef = .pointer (some ⟨g, 0, none⟩)) (hg : w.heap[g]? = some (.cells cs t fr))
    (hu : P.underlying ty = some d) (hd : (match d with | .struct _ | .array _ _ => true | _ => false) = true) (hi : (P.info? ty).map (·.size) = some cs.size) (r : Value) (hr : tmps.getD u undef = r) :
    (results fn tmps).run P w = .ok (.tuple #[.agg cs, r]) w := by
  rw [results_cell_tmp h, hp, hr]
  simp [asAddr, run_loadVar_row w g t ty cs fr d hg hu hd hi, Result.andThen]

theorem ne_strS {x y : ByteArray} (h : x ≠ y) : (x.toList != y.toList) = true ∧ (x.toList == y.toList) = false := by
  have e : (x.toList == y.toList) = false := by
    rw [beq_eq_false_iff_ne, ByteArray.toList_eq, ByteArray.toList_eq]
    exact fun e => h (ByteArray.ext (Array.toList_inj.1 e))
  exact ⟨by rw [bne, e]; rfl, e⟩
def zSu : Su := ⟨0, 0, 0, List.replicate 32 0⟩
theorem zSu_row : (esS zSu).toArray = zS := by kernel_rfl
theorem zS_one : zS.all (·.oneCell') = true := by simp [Value.oneCell']
theorem infoZ : (Tryz.prog.info? 44).map (·.size) = some zS.size := infoS35
def deV (d : ByteArray) : Su := if okS (tkS d) = true ∧ enS (tkS d) = d then tkS d else zSu
def deX (d : ByteArray) : Int := if okS (tkS d) = true ∧ enS (tkS d) = d then 0 else 9
theorem tkS_lim (d : ByteArray) : (tkS d).lim := by
  obtain ⟨r0, r1, r2, r3, n1, n2, n3, h0, z0, a1, b1, z1, a2, b2, z2, a3, b3, z3, l1, l2, l3, ht⟩ := tk_parts d
  rw [ht]
  exact ⟨l1, l2, l3, by show (r3.data.toList.take 32).length = 32; rw [List.length_take, szl]; omega⟩
theorem de_no {d : ByteArray} (h : ¬ (okS (tkS d) = true ∧ enS (tkS d) = d)) : vS (deV d) = .agg zS ∧ deX d = 9 := by
  unfold deV deX vS
  rw [if_neg h, if_neg h, zSu_row]
  exact ⟨rfl, rfl⟩
theorem de_yes {d : ByteArray} (h : okS (tkS d) = true ∧ enS (tkS d) = d) : deV d = tkS d ∧ deX d = 0 := by
  unfold deV deX
  rw [if_pos h, if_pos h]
  exact ⟨rfl, rfl⟩
theorem deV_lim (d : ByteArray) : (deV d).lim := by
  unfold deV
  split
  · exact tkS_lim d
  · exact ⟨by decide, by decide, by decide, by decide⟩
set_option maxRecDepth 100000 in
set_option maxHeartbeats 4000000 in
theorem decode_su (d : ByteArray) (hd : d.size ≤ 140737488351232) (w : World) :
    Calls Tryz.prog 28 #[.string d] w fun e w' => e = .returned (.tuple #[vS (deV d), .int .i64 (deX d)]) ∧ Below w.heap.size w w' := by
  have hl := tkS_lim d
  have HT := Lib.hid (fun w => taken_su d hd w)
  have HE := Lib.hid (fun w => encode_su (tkS d) hl w)
  have HCI := Lib.hid (infoSa (s := tkS d) hl.2.2.2)
  have HCO := Lib.hid (all_of_one (esS_one (tkS d)))
  have HCZ := Lib.hid (zS_size.trans (show 35 = (esS (tkS d)).toArray.size by rw [List.size_toArray, esS_len hl.2.2.2]))
  have HN := Lib.hid (fun h : ¬ (okS (tkS d) = true ∧ enS (tkS d) = d) => de_no h)
  have HY := Lib.hid (fun h : okS (tkS d) = true ∧ enS (tkS d) = d => (⟨by rw [(de_yes h).1]; rfl, (de_yes h).2⟩ : vS (deV d) = .agg (esS (tkS d)).toArray ∧ deX d = 0))
  have HKN := Lib.hid (fun h : okS (tkS d) = false => chS_no h)
  have HKY := Lib.hid (fun h : okS (tkS d) = true => (chS_yes h).1)
  obtain ⟨C, hC⟩ : ∃ C, (esS (tkS d)).toArray = C := ⟨_, rfl⟩
  rw [show vS (tkS d) = .agg (esS (tkS d)).toArray from rfl, hC] at HT HE
  rw [hC] at HCI HCO HCZ HY
  obtain ⟨V, hV⟩ : ∃ V, vS (deV d) = V := ⟨_, rfl⟩
  obtain ⟨X, hX⟩ : ∃ V, deX d = V := ⟨_, rfl⟩
  obtain ⟨y, hy⟩ : ∃ V, enS (tkS d) = V := ⟨_, rfl⟩
  obtain ⟨x, hx⟩ : ∃ V, chS (tkS d) = V := ⟨_, rfl⟩
  obtain ⟨q, hq⟩ : ∃ V, okS (tkS d) = V := ⟨_, rfl⟩
  rw [hV, hX, hy, hq] at HN HY
  rw [hV, hX]
  rw [hy, hx] at HE
  rw [hy, hx, hq] at HKN
  rw [hx, hq] at HKY
  clear hC hV hX hy hx hq hl
  have R0 := Lib.hid (heap_alloc_new w (.cells zS 44))
  have B0 := Lib.hid ((Below.refl w.heap.size w).alloc (Nat.le_refl _) (.cells zS 44))
  have l0 : w.heap.size < (w.alloc (.cells zS 44)).heap.size := by simp
  go_enter Tryz.func28, Tryz.ntmps28
  go_wp2_with fail
  generalize w.alloc _ = W at *
  refine (HT.out _).mono ?_
  rintro e w1 ⟨rfl, hb⟩
  have R1 := Lib.hid ((hb.block _ l0).trans R0.out)
  have B1 := Lib.hid (B0.out.trans (hb.mono B0.out.size))
  have l1 := Nat.lt_of_lt_of_le l0 hb.size
  clear hb R0 B0 l0 HT
  go_wp2_with (first
    | (refine wpList_fresh rfl 44 (.tmp 4) (.tmp 8) rfl C zS 44 rfl rfl HCI.out HCZ.out HCO.out ?_; intro w2 hb hrow hsz; have R2 := Lib.hid ((hb.block _ l1).trans R1.out); have Q2 := Lib.hid hrow; have B2 := Lib.hid (B1.out.trans (hb.mono B1.out.size)); have k2 : w1.heap.size < w2.heap.size := by omega
       clear hb hrow hsz)
    | (refine wpList_load_row rfl 44 (.tmp 4) rfl w1.heap.size rfl 44 C (0, 0) _ Q2.out Tryz.underlying44 rfl HCI.out ?_))
  refine (HE.out _).mono ?_
  rintro e w3 ⟨rfl, hb⟩
  have R3 := Lib.hid ((hb.block _ (by omega)).trans R2.out)
  have Q3 := Lib.hid ((hb.block _ k2).trans Q2.out)
  have B3 := Lib.hid (B2.out.trans (hb.mono B2.out.size))
  clear hb R2 B2 HE R1 B1 Q2
  have R4 := Lib.hid (setRow_heap' (cs := zS) R3.out)
  have R5 := Lib.hid (setRow_heap' (cs := C) R3.out)
  have B4 := Lib.hid (below_setRow B3.out (Nat.le_refl _) zS)
  have B5 := Lib.hid (below_setRow B3.out (Nat.le_refl _) C)
  cases q
  · obtain ⟨e1, e2⟩ := HKN.out rfl
    obtain ⟨e3, e4⟩ := HN.out (by simp)
    clear HKN HKY HN HY
    subst e1 e2 e3 e4
    go_wp2_with (refine wpList_store_row rfl 44 (.tmp 2) (.tmp 21) rfl w.heap.size zS rfl rfl 44 zS R3.out infoZ rfl zS_one ?_)
    refine bodyPost_ret (v := .tuple #[.agg zS, .int .i64 9]) (results_row2 rfl _ _ w.heap.size 44 zS (0, 0) _ rfl R4.out Tryz.underlying44 rfl infoZ _ rfl) rfl ?_
    exact ⟨rfl, B4.out⟩
  · have e1 := HKY.out rfl
    by_cases hyd : y = d
    · obtain ⟨e3, e4⟩ := HY.out ⟨rfl, hyd⟩
      clear HKN HKY HN HY
      subst e1 e3 e4 hyd
      have s1 : (y.toList != y.toList) = false := by rw [bne, beq_self_eq_true]; rfl
      go_wp2_with (first
        | (refine wpList_load_row rfl 44 (.tmp 4) rfl w1.heap.size rfl 44 C (0, 0) _ Q3.out Tryz.underlying44 rfl HCI.out ?_)
        | (refine wpList_store_row rfl 44 (.tmp 2) (.tmp 22) rfl w.heap.size C rfl rfl 44 zS R3.out HCI.out HCZ.out HCO.out ?_))
      refine bodyPost_ret (v := .tuple #[.agg C, .int .i64 0]) (results_row2 rfl _ _ w.heap.size 44 C (0, 0) _ rfl R5.out Tryz.underlying44 rfl HCI.out _ rfl) rfl ?_
      exact ⟨rfl, B5.out⟩
    · obtain ⟨e3, e4⟩ := HN.out (fun h => hyd h.2)
      obtain ⟨s1, s2⟩ := ne_strS hyd
      clear HKN HKY HN HY hyd
      subst e1 e3 e4
      go_wp2_with (refine wpList_store_row rfl 44 (.tmp 2) (.tmp 21) rfl w.heap.size zS rfl rfl 44 zS R3.out infoZ rfl zS_one ?_)
      refine bodyPost_ret (v := .tuple #[.agg zS, .int .i64 9]) (results_row2 rfl _ _ w.heap.size 44 zS (0, 0) _ rfl R4.out Tryz.underlying44 rfl infoZ _ rfl) rfl ?_
      exact ⟨rfl, B4.out⟩
end Go.Proofs.YtlchjohaacbkpaaGreatDoor.Sp
