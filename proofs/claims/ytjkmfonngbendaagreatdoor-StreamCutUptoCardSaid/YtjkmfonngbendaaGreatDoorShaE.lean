/- Contracts of package hash's padding and bytes. -/
import Derived.Test.YtjkmfonngbendaaGreatDoorShaD
import Derived.Test.YtjkmfonngbendaaGreatDoorMath
import Derived.Deep.OwnRows
import Derived.Lib.BufferWrite
namespace Go.Proofs.YtjkmfonngbendaaGreatDoor.Hk
set_option linter.unusedVariables false
open Go.ChangeShapes Go.WideShapes Go.ChangeAt Go.RowKit
open Pk (be be_length u8s u8s_length u8s_set u8s_get)
def padZ (n : Nat) : Nat := (119 - n % 64) % 64
def padL (n : Nat) : List UInt8 := 128 :: (List.replicate (padZ n) 0 ++ be 8 (n * 8))
theorem info5 : (Tryz.prog.info? 5).map (fun i => (i.zero, i.size, i.bytes)) = some (some (.int .u8 0), 1, 1) := by kernel_rfl
theorem be_cons (i n : Nat) : UInt8.ofNat (n / 256 ^ i) :: be i n = be (i + 1) n := by
  induction i generalizing n with
  | zero => simp [be]
  | succ i ih =>
    rw [be, ← List.cons_append, be, ← ih (n / 256), Nat.div_div_eq_div_mul, Nat.pow_succ, Nat.mul_comm]
def fillP (z L i : Nat) : List UInt8 := 128 :: (List.replicate (z + 8 - i) 0 ++ be i L)
theorem fillP_length (z L i : Nat) (h : i ≤ 8) : (fillP z L i).length = z + 9 := by
  unfold fillP
  rw [List.length_cons, List.length_append, List.length_replicate, be_length]; omega
theorem fillP_set (z L i : Nat) (h : i < 8) : (fillP z L i).set (z + 8 - i) (UInt8.ofNat (L / 256 ^ i)) = fillP z L (i + 1) := by
  unfold fillP
  rw [show z + 8 - i = (z + 8 - (i + 1)) + 1 by omega, List.set_cons_succ, List.replicate_succ', List.append_assoc, List.set_append_right _ _ (by simp), List.length_replicate, Nat.sub_self, ← be_cons]
  rfl
theorem wpList_copy_str {P : Program} {ops : Array Oper} {rest : List Oper} {o : Oper} {a : Act} {w : World} {Q : Exit → Act → World → Prop}
    (hgd : o.guard = none) (d x : Operand) (dT sT : TypeId) (hop : o.op = Op.call { callee := Callee.builtin Builtin.copy, args := #[d, x], argTypes := #[dT, sT] })
    (elem : TypeId) (hu : P.underlying dT = some (.slice elem)) (hs : (P.info? elem).map (·.size) = some 1) (g dLen dCap : Nat) (hd : a.eval d = .slice (some ⟨g, 0, none⟩) dLen dCap) (s : ByteArray) (hx : a.eval x = .string s)
    (cur : Array Value) (t : TypeId) (hg : w.heap[g]? = some (.cells cur t (0, 0))) (hle : s.size ≤ dLen) (hfit : s.size ≤ cur.size)
    (hK : wpList P ops Q rest (a.put o.dst (goInt s.size)) (w.setRow g (cur.toList.take 0 ++ Lib.byteCells s.data.toList ++ cur.toList.drop (0 + s.size)).toArray)) :
    wpList P ops Q (o :: rest) a w := by
  refine wpList_plain hgd fun K hK' => ?_
  have hrun := Lib.run_copy_row_string (P := P) w dT sT o.type elem g 0 dLen dCap s cur t hu hs hg hle (by omega)
  unfold Oper.wp
  simp [execOp, hop, resolve, invoke, builtin, hd, hx, hrun, Result.andThen]
  exact hK' _ _ (by simpa using hK)
theorem infoB : (Tryz.prog.info? 5).map (·.size) = some 1 := by kernel_rfl
theorem back_row (W : World) (g : Nat) (l : List UInt8) (C n : Nat) (t : TypeId) (hn : n = l.length) (h : W.heap[g]? = some (.cells (u8s l).toArray t (0, 0))) : (convert 60 9 (.slice (some ⟨g, 0, none⟩) n C)).run Tryz.prog W = .ok (.string ⟨l.toArray⟩) W := by
  subst hn
  exact run_convert_bytes_back (P := Tryz.prog) W 60 9 5 ⟨g, 0, none⟩ C l Tryz.underlying60 Tryz.underlying5 Tryz.underlying9 (by
    intro j hj
    have hplain : (⟨g, 0, none⟩ : Addr).add j = ⟨g, j, none⟩ := by unfold Addr.add; split <;> simp_all
    rw [hplain, cell_of_row W g j _ t (0, 0) h]
    simpa using u8s_get l j hj)
theorem padding_any (n : Nat) (hn : n ≤ 281474976710656) (w : World) :
    Calls Tryz.prog 67 #[.int .i64 n] w fun e w' => e = .returned (.string ⟨(padL n).toArray⟩) ∧ Below w.heap.size w w' := by
  obtain ⟨z, hz⟩ : ∃ z, z = padZ n := ⟨_, rfl⟩
  have e0 : (119 - (n : Int) % 64) % 64 = (z : Int) := by rw [hz]; unfold padZ; omega
  have e1 : (119 - (n : Int)) % 64 = (z : Int) := by rw [hz]; unfold padZ; omega
  have hz0 : z ≤ 63 := by omega
  have hmk0 := fun (W : World) => run_make_row' (P := Tryz.prog) (w := W) 60 5 (.int .u8 0) 1 Tryz.underlying60 info5 rfl .i64 .i64 (z + 9) (by omega) (by omega)
  rw [show ((z + 9 : Nat) : Int) = 1 + (z : Int) + 8 by omega] at hmk0
  have HMK := Lib.hid hmk0
  have HZ := Lib.hid hz
  clear hz hmk0
  have hmk := HMK.out
  go_enter Tryz.func67, Tryz.ntmps67
  have hle : (⟨#[128]⟩ : ByteArray).size ≤ z + 9 := by show 1 ≤ z + 9; omega
  have hfit : (⟨#[128]⟩ : ByteArray).size ≤ (madeCells #[Value.int .u8 0] (z + 9)).size := by rw [size_madeCells]; exact hle
  have HL := Lib.hid hle
  have HF := Lib.hid hfit
  clear hle hfit
  go_wp2_with (first
    | (refine wpList_copy_str rfl (.tmp 18) (.const (.string ⟨#[128]⟩)) 60 9 rfl 5 Tryz.underlying60 infoB w.heap.size (z + 9) (z + 9) rfl ⟨#[128]⟩ rfl (madeCells #[.int .u8 0] (z + 9)) 5 (heap_alloc_new w _) HL.out HF.out ?_))
  clear hmk HMK HL HF
  go_loopw [20] (fun v wr => ∃ i : Nat, i ≤ 8 ∧ v = .int .i64 i ∧ wr.heap[w.heap.size]? = some (.cells (u8s (fillP z (n * 8) i)).toArray 5 (0, 0)) ∧ Below w.heap.size w wr) (fun v _ => 8 - (intOf v).toNat)
  case atStart =>
    refine ⟨0, Nat.zero_le _, rfl, ?_, below_setRow ((Below.refl _ _).alloc (Nat.le_refl _) _) (Nat.le_refl _) _⟩
    have h := setRow_heap (w.alloc (.cells (madeCells #[.int .u8 0] (z + 9)) 5)) w.heap.size _ (Lib.byteCells [128] ++ (madeCells #[Value.int .u8 0] (z + 9)).toList.tail).toArray 5 (0, 0) (heap_alloc_new w _)
    refine h.trans ?_
    rw [toList_madeCells_one]
    congr 2
    unfold fillP u8s
    simp [Lib.byteCells, be, List.replicate_succ]
  case round =>
    obtain ⟨i, hi, rfl, hrow, hbel⟩ := hrel
    by_cases hlt : i < 8
    · have hlen := fillP_length z (n * 8) i (by omega)
      have hcell : wr.cell? ⟨w.heap.size, z + 8 - i, none⟩ = some (.int .u8 (((fillP z (n * 8) i)[z + 8 - i]'(by omega)).toNat : Int)) := by
        rw [cell_of_row wr w.heap.size (z + 8 - i) _ 5 (0, 0) hrow]
        simpa using u8s_get (fillP z (n * 8) i) (z + 8 - i) (by omega)
      have hfr : wr.frozen? ⟨w.heap.size, z + 8 - i, none⟩ = false := frozen_of_row wr w.heap.size (z + 8 - i) _ 5 hrow
      have ev : ((UInt8.ofNat (n * 8 / 256 ^ i)).toNat : Int) = (n : Int) * 8 / 2 ^ (8 * i) % 256 := by
        rw [← Pk.pow_256]
        simp
      have hst := heap_setCell_same wr w.heap.size (z + 8 - i) _ 5 (.int .u8 ((UInt8.ofNat (n * 8 / 256 ^ i)).toNat : Int)) hrow
      rw [List.setIfInBounds_toArray, u8s_set, fillP_set z (n * 8) i hlt, ev] at hst
      have HST := Lib.hid hst
      have hi1 : (i : Int) ≤ z + 8 := by omega
      generalize hx : ((fillP z (n * 8) i)[z + 8 - i]'(by omega)) = x at hcell
      clear hst ev hlen hrow hx
      go_wp2
      go_roundw
      case rel => exact ⟨i + 1, by omega, by go_num, HST.out, hbel.setCell (p := ⟨w.heap.size, z + 8 - i, none⟩) (Nat.le_refl _) _⟩
      case measure => simp [intOf]; omega
    · obtain rfl : i = 8 := by omega
      have hcv := back_row wr w.heap.size (fillP z (n * 8) 8) (z + 9) (z + 9) 5 (by rw [fillP_length _ _ _ (Nat.le_refl _)]) hrow
      have HP := Lib.hid (show fillP z (n * 8) 8 = padL n by unfold fillP padL; rw [HZ.out, Nat.add_sub_cancel])
      clear hrow
      go_wp2
      go_ret
      exact ⟨by rw [HP.out]; rfl, hbel⟩
def hb (s : St) (i : Nat) : UInt8 := UInt8.ofNat ((s.list.getD (i / 4) 0).toNat / 2 ^ (24 - 8 * (i % 4)))
def hbs (s : St) (i : Nat) : List UInt8 := (List.range i).map (hb s) ++ List.replicate (32 - i) 0
theorem hbs_length (s : St) (i : Nat) (h : i ≤ 32) : (hbs s i).length = 32 := by unfold hbs; simp; omega
theorem hbs_set (s : St) (i : Nat) (h : i < 32) : (hbs s i).set i (hb s i) = hbs s (i + 1) := by
  unfold hbs
  rw [List.set_append_right _ _ (by simp), List.length_map, List.length_range, Nat.sub_self, show 32 - i = (32 - (i + 1)) + 1 by omega, List.replicate_succ, List.set_cons_zero, List.range_succ, List.map_append, List.append_assoc]
  rfl
def hashB (s : St) : List UInt8 := (List.range 32).map (hb s)
theorem hbs_all (s : St) : hbs s 32 = hashB s := by unfold hbs hashB; simp
theorem hb_val (s : St) (i : Nat) (x : BitVec 32) (hx : s.list[i / 4]? = some x) : ((hb s i).toNat : Int) = vN x / 2 ^ (24 - 8 * (i % 4)) % 256 := by
  unfold hb vN
  rw [List.getD_eq_getElem?_getD, hx]
  simp
theorem infoH {l : List UInt8} (h : l.length = 32) : (Tryz.prog.info? 54).map (·.size) = some (u8s l).toArray.size := by
  rw [List.size_toArray, u8s_length, h]; kernel_rfl
theorem u8s_one (l : List UInt8) : (u8s l).toArray.all (·.oneCell') = true := by
  rw [Array.all_eq_true_iff_forall_mem]
  intro v hv
  simp [u8s] at hv
  obtain ⟨x, _, rfl⟩ := hv
  rfl
set_option maxRecDepth 100000 in
set_option maxHeartbeats 1000000 in
theorem bytes_any (s : St) (w : World) :
    Calls Tryz.prog 68 #[.agg #[.int .u32 (vN s.a), .int .u32 (vN s.b), .int .u32 (vN s.c), .int .u32 (vN s.d), .int .u32 (vN s.e), .int .u32 (vN s.f), .int .u32 (vN s.g), .int .u32 (vN s.h)]] w fun e w' => e = .returned (.agg (u8s (hashB s)).toArray) ∧ Below w.heap.size w w' := by
  go_enter Tryz.func68, Tryz.ntmps68
  go_wp2
  go_loopw [5] (fun v wr => ∃ i : Nat, i ≤ 32 ∧ v = .int .i64 i ∧ Row wr w.heap.size 122 s.list ∧ wr.heap[w.heap.size + 1]? = some (.cells (u8s (List.replicate 32 0)).toArray 54 (0, 0)) ∧ wr.heap[w.heap.size + 1 + 1]? = some (.cells (u8s (hbs s i)).toArray 54 (0, 0)) ∧ Below w.heap.size w wr) (fun v _ => 32 - (intOf v).toNat)
  case atStart => exact ⟨0, Nat.zero_le _, rfl, alloc3_0 w _ _ _ 0, alloc3_1 w _ _ _ 0, alloc3_2 w _ _ _ 0, alloc3_below w _ _ _ 0⟩
  case round =>
    obtain ⟨i, hi, rfl, r0, r1, r2, hbel⟩ := hrel
    by_cases hlt : i < 32
    · obtain ⟨x, hx⟩ : ∃ x, s.list[i / 4]? = some x := ⟨_, List.getElem?_eq_getElem (by show i / 4 < 8; omega)⟩
      have c0 := r0.cell hx
      have hlen := hbs_length s i hi
      have hcell : wr.cell? ⟨w.heap.size + 1 + 1, i, none⟩ = some (.int .u8 (((hbs s i)[i]'(by omega)).toNat : Int)) := by
        rw [cell_of_row wr (w.heap.size + 1 + 1) i _ 54 (0, 0) r2]
        simpa using u8s_get (hbs s i) i (by omega)
      have hfr : wr.frozen? ⟨w.heap.size + 1 + 1, i, none⟩ = false := frozen_of_row wr (w.heap.size + 1 + 1) i _ 54 r2
      have ev := hb_val s i x hx
      have hst := heap_setCell_same wr (w.heap.size + 1 + 1) i _ 54 (.int .u8 ((hb s i).toNat : Int)) r2
      rw [List.setIfInBounds_toArray, u8s_set, hbs_set s i hlt] at hst
      have hq0 := r0.other (w.heap.size + 1 + 1) i (.int .u8 ((hb s i).toNat : Int)) (by omega)
      have hq1 := (heap_setCell_other wr ⟨w.heap.size + 1 + 1, i, none⟩ (w.heap.size + 1) (.int .u8 ((hb s i).toNat : Int)) (by show w.heap.size + 1 ≠ w.heap.size + 1 + 1; omega)).trans r1
      rw [ev] at hst hq0 hq1
      have HST := Lib.hid hst
      have Q0 := Lib.hid hq0
      have Q1 := Lib.hid hq1
      have x0 := vN_lo x
      have x1 := vN_hi x
      have d0 : (0 : Int) ≤ (i : Int) / 4 := by omega
      have d1 : (i : Int) / 4 < 8 := by omega
      generalize ((hbs s i)[i]'(by omega)) = y at hcell
      clear hst hq0 hq1 ev hlen r0 r1 r2 hx
      go_wp2
      go_roundw
      case rel => exact ⟨i + 1, by omega, by go_num, Q0.out, Q1.out, HST.out, hbel.setCell (p := ⟨w.heap.size + 1 + 1, i, none⟩) (by show w.heap.size ≤ w.heap.size + 1 + 1; omega) _⟩
      case measure => simp [intOf]; omega
    · obtain rfl : i = 32 := by omega
      rw [hbs_all] at r2
      have hh : (hashB s).length = 32 := by unfold hashB; simp
      obtain ⟨C, hC⟩ : ∃ C, C = (u8s (hashB s)).toArray := ⟨_, rfl⟩
      obtain ⟨C0, hC0⟩ : ∃ C, C = (u8s (List.replicate 32 0)).toArray := ⟨_, rfl⟩
      have hI := infoH hh
      have hO := u8s_one (hashB s)
      have hz : C0.size = C.size := by rw [hC, hC0, List.size_toArray, List.size_toArray, u8s_length, u8s_length, hh]; rfl
      rw [← hC] at r2 hI hO
      rw [← hC0] at r1
      have HC := Lib.hid hC
      have R1 := Lib.hid r1
      have R2 := Lib.hid r2
      have I := Lib.hid hI
      have O := Lib.hid hO
      have Z := Lib.hid hz
      clear hC hC0 hI hO hz r0 r1 r2 hh
      go_wp2_with (first
        | (refine wpList_load_row rfl 54 (.tmp 3) rfl (w.heap.size + 1 + 1) rfl 54 C (0, 0) _ R2.out Tryz.underlying54 rfl I.out ?_)
        | (refine wpList_store_row rfl 54 (.tmp 2) (.tmp 21) rfl (w.heap.size + 1) C rfl rfl 54 C0 R1.out I.out Z.out O.out ?_))
      have hg2 := setRow_heap wr (w.heap.size + 1) C0 C 54 (0, 0) R1.out
      refine bodyPost_ret (v := .agg C) (results_cell_row rfl _ _ (w.heap.size + 1) 54 C (0, 0) _ rfl hg2 Tryz.underlying54 rfl I.out) rfl ⟨by rw [HC.out], below_setRow hbel (by omega) _⟩
end Go.Proofs.YtjkmfonngbendaaGreatDoor.Hk
