/- Contracts of package hash's Parse and of the document's Parse. -/
import Derived.Test.YtglciacjfoimlaaDoorHexW
import Derived.Lib.BufferWrite
import Derived.Deep.OwnRows
namespace Go.Proofs.YtglciacjfoimlaaDoor.Hc
set_option linter.unusedVariables false
open Go.ChangeShapes Go.WideShapes Go.ChangeAt Go.RowKit
open Pk (u8s u8s_length u8s_set u8s_get)
def zeros : List UInt8 := List.replicate 32 0
def pOk (s : List UInt8) : Bool := decide (s.length = 64) && allOk s
def pA (s : List UInt8) : List UInt8 := if pOk s then parseL s else zeros
def pE (s : List UInt8) : Int := if pOk s then 0 else 4
theorem zeros_length : zeros.length = 32 := by unfold zeros; simp
theorem pA_length (s : List UInt8) : (pA s).length = 32 := by
  unfold pA
  split
  · rename_i h
    unfold pOk at h
    simp at h
    exact parse_length 32 s (by omega)
  · exact zeros_length
/-- the first i bytes, zeros behind them -/
def part (s : List UInt8) (i : Nat) : List UInt8 := (parseL s).take i ++ List.replicate (32 - i) 0
theorem part_length (s : List UInt8) (hs : s.length = 64) (i : Nat) (h : i ≤ 32) : (part s i).length = 32 := by
  unfold part
  rw [List.length_append, List.length_take, List.length_replicate, parse_length 32 s (by omega)]; omega
theorem part_set (s : List UInt8) (hs : s.length = 64) (i : Nat) (h : i < 32) (b : UInt8) (hb : (parseL s)[i]? = some b) : (part s i).set i b = part s (i + 1) := by
  have hl := parse_length 32 s (by omega)
  unfold part
  rw [List.set_append_right _ _ (by rw [List.length_take]; omega), List.length_take, Nat.min_eq_left (by omega), Nat.sub_self, show 32 - i = (32 - (i + 1)) + 1 by omega, List.replicate_succ, List.set_cons_zero, take_succ_some hb]
  simp
theorem part_all (s : List UInt8) (hs : s.length = 64) : part s 32 = parseL s := by
  unfold part
  rw [List.take_of_length_le (by rw [parse_length 32 s (by omega)]; omega)]
  simp
theorem part_zero (s : List UInt8) : part s 0 = zeros := by unfold part zeros; simp
theorem u8s_one (l : List UInt8) : (u8s l).toArray.all (·.oneCell') = true := by
  rw [Array.all_eq_true_iff_forall_mem]
  intro v hv
  simp [u8s] at hv
  obtain ⟨x, _, rfl⟩ := hv
  rfl
theorem or_digits (a b : Nat) (ha : a < 16) (hb : b < 16) : bits BinOp.or IntKind.u8 ((a : Int) * 16) (b : Int) = (a : Int) * 16 + (b : Int) := by
  have e : ∀ i j : Fin 16, bits BinOp.or IntKind.u8 ((i.val : Int) * 16) (j.val : Int) = (i.val : Int) * 16 + (j.val : Int) := by decide +kernel
  exact e ⟨a, ha⟩ ⟨b, hb⟩
theorem allOk_get {s : List UInt8} (h : allOk s = true) {i : Nat} {a : UInt8} (ha : s[i]? = some a) : dOk a.toNat = true := by
  unfold allOk at h
  exact List.all_eq_true.1 h a (List.mem_of_getElem? ha)
theorem allOk_of {s : List UInt8} (h : ∀ i : Nat, i < s.length → ∀ a, s[i]? = some a → dOk a.toNat = true) : allOk s = true := by
  unfold allOk
  rw [List.all_eq_true]
  intro a ha
  obtain ⟨i, hi, e⟩ := List.getElem_of_mem ha
  exact h i hi a (by rw [List.getElem?_eq_getElem hi, e])
theorem results_row_tmp {P : Program} {fn : Func} {p u : Tmp} {ty : TypeId} (h : fn.results = #[.cell p ty, .tmp u]) (tmps : Array Value) (w : World) (g : Nat) (t : TypeId) (cs : Array Value) (fr : Nat × Nat) (d : TypeDesc) (x : Value)
    (hp : tmps.getD p undef = .pointer (some ⟨g, 0, none⟩)) (hg : w.heap[g]? = some (.cells cs t fr))
    (hu : P.underlying ty = some d) (hd : (match d with | .struct _ | .array _ _ => true | _ => false) = true) (hi : (P.info? ty).map (·.size) = some cs.size) (hx : tmps.getD u undef = x) :
    (results fn tmps).run P w = .ok (.tuple #[.agg cs, x]) w := by
  rw [results_cell_tmp h, hp, hx]
  simp [asAddr, run_loadVar_row w g t ty cs fr d hg hu hd hi]
theorem setRow_heap' {w : World} {g : Nat} {cs old : Array Value} {t : TypeId} {f : Nat × Nat} (h : w.heap[g]? = some (.cells old t f)) : (w.setRow g cs).heap[g]? = some (.cells cs t f) := setRow_heap w g old cs t f h
theorem below_setRow {B : Nat} {w w1 : World} (h : Below B w w1) {g : Nat} (hg : B ≤ g) (cs : Array Value) : Below B w (w1.setRow g cs) :=
  h.trans ⟨rfl, rfl, rfl, by simp [World.setRow], fun k hk => by
    simp only [World.setRow, Array.getElem?_modify]
    rw [if_neg (by omega)]⟩
def Z32 : Array Value := (u8s zeros).toArray
theorem z32_info : (Tryd.prog.info? 23).map (·.size) = some Z32.size := by kernel_rfl
theorem z32_one : Z32.all (·.oneCell') = true := u8s_one _
def Blk (w : World) (g : Nat) (l : List UInt8) : Prop := w.heap[g]? = some (.cells (u8s l).toArray 23 (0, 0))
theorem pE_no {s : List UInt8} (h : ¬ pOk s = true) : pE s = 4 ∧ pA s = zeros := ⟨if_neg h, if_neg h⟩
theorem pE_yes {s : List UInt8} (h : pOk s = true) : pE s = 0 ∧ pA s = parseL s := ⟨if_pos h, if_pos h⟩
set_option maxRecDepth 100000 in
set_option maxHeartbeats 500000 in
theorem parse_short (s : ByteArray) (hs : s.size ≤ maxLen) (h64 : s.size ≠ 64) (w : World) :
    Calls Tryd.prog 15 #[.string s] w fun e w' => e = .returned (.tuple #[.agg Z32, .int .i64 4]) ∧ Below w.heap.size w w' := by
  unfold maxLen at hs
  have h1 : ((s.size : Int) != 64) = true := by rw [bne_iff_ne]; omega
  go_enter Tryd.func15, Tryd.ntmps15
  go_wp2_with (first
    | (refine wpList_store_row rfl 23 (.tmp 2) (.tmp 13) rfl w.heap.size Z32 rfl rfl 23 Z32 (heap_alloc_new w _) z32_info rfl z32_one ?_))
  refine bodyPost_ret (v := .tuple #[.agg Z32, .int .i64 4]) (results_row_tmp rfl _ _ w.heap.size 23 Z32 (0, 0) _ _ rfl (setRow_heap' (heap_alloc_new w _)) Tryd.underlying23 rfl z32_info rfl) rfl ⟨rfl, below_setRow ((Below.refl _ _).alloc (Nat.le_refl _) _) (Nat.le_refl _) _⟩
set_option maxRecDepth 100000 in
set_option maxHeartbeats 500000 in
theorem parse_full (s : ByteArray) (h64 : s.size = 64) (w : World) :
    Calls Tryd.prog 15 #[.string s] w fun e w' => ∃ C, C = (u8s (pA s.data.toList)).toArray ∧ e = .returned (.tuple #[.agg C, .int .i64 (pE s.data.toList)]) ∧ Below w.heap.size w w' := by
  have hl64 : s.data.toList.length = 64 := by simpa using h64
  have h1 : ((s.size : Int) != 64) = false := by rw [h64]; rfl
  go_enter Tryd.func15, Tryd.ntmps15
  go_wp2_with fail
  go_loopw [14] (fun v wr => ∃ i : Nat, i ≤ 32 ∧ v = .int .i64 i ∧ Blk wr w.heap.size zeros ∧ Blk wr (w.heap.size + 1) (part s.data.toList i) ∧ (∀ j : Nat, j < 2 * i → ∀ a, s.data.toList[j]? = some a → dOk a.toNat = true) ∧ Below w.heap.size w wr) (fun v _ => 32 - (intOf v).toNat)
  case atStart => exact ⟨0, Nat.zero_le _, rfl, (Below.heap_alloc _ _ _ (by simp)).trans (heap_alloc_new w _), by rw [part_zero]; exact (show (w.alloc _).heap.size = w.heap.size + 1 by simp) ▸ heap_alloc_new _ _, by intro j hj; omega, ((Below.refl _ _).alloc (Nat.le_refl _) _).alloc (by simp) _⟩
  case round =>
    obtain ⟨i, hi, rfl, r0, r1, hall, hbel⟩ := hrel
    by_cases hlt : i < 32
    · have hi1 : 2 * i < s.size := by omega
      have hi2 : 2 * i + 1 < s.size := by omega
      have ga : s.data.toList[2 * i]? = some s[2 * i] := by rw [List.getElem?_eq_getElem (by omega)]; rfl
      have gb : s.data.toList[2 * i + 1]? = some s[2 * i + 1] := by rw [List.getElem?_eq_getElem (by omega)]; rfl
      have hpa := (s[2 * i]).toNat_lt
      have hpb := (s[2 * i + 1]).toNat_lt
      have hda := dV_lt (s[2 * i]).toNat
      have hdb := dV_lt (s[2 * i + 1]).toNat
      have R0 := Lib.hid r0
      have R1 := Lib.hid r1
      have HA := Lib.hid hall
      clear hall r0 r1
      by_cases ha : dOk (s[2 * i]).toNat = true
      · by_cases hb : dOk (s[2 * i + 1]).toNat = true
        · have hq := parse_get _ i _ _ ga gb
          have hlen := part_length s.data.toList hl64 i hi
          have hcell : wr.cell? ⟨w.heap.size + 1, i, none⟩ = some (.int .u8 (((part s.data.toList i)[i]'(by omega)).toNat : Int)) := by
            rw [cell_of_row wr (w.heap.size + 1) i _ 23 (0, 0) R1.out]
            simpa using u8s_get (part s.data.toList i) i (by omega)
          have hfr : wr.frozen? ⟨w.heap.size + 1, i, none⟩ = false := frozen_of_row wr (w.heap.size + 1) i _ 23 R1.out
          have hst := heap_setCell_same wr (w.heap.size + 1) i _ 23 (.int .u8 (((UInt8.ofNat (dV (s[2 * i]).toNat * 16 + dV (s[2 * i + 1]).toNat)).toNat : Nat) : Int)) R1.out
          rw [List.setIfInBounds_toArray, u8s_set, part_set s.data.toList hl64 i hlt _ hq] at hst
          have hoth := (heap_setCell_other wr ⟨w.heap.size + 1, i, none⟩ w.heap.size (.int .u8 (((UInt8.ofNat (dV (s[2 * i]).toNat * 16 + dV (s[2 * i + 1]).toNat)).toNat : Nat) : Int)) (by show w.heap.size ≠ w.heap.size + 1; omega)).trans R0.out
          have ev : ((UInt8.ofNat (dV (s[2 * i]).toNat * 16 + dV (s[2 * i + 1]).toNat)).toNat : Int) = (dV (s[2 * i]).toNat : Int) * 16 + (dV (s[2 * i + 1]).toNat : Int) := by
            rw [UInt8.toNat_ofNat', Nat.mod_eq_of_lt (by omega)]; omega
          rw [ev] at hst hoth
          have hor := or_digits _ _ hda hdb
          have HST := Lib.hid hst
          have HOT := Lib.hid hoth
          have HN := Lib.hid (show ∀ j : Nat, j < 2 * (i + 1) → ∀ a, s.data.toList[j]? = some a → dOk a.toNat = true by
            intro j hj a hja
            rcases Nat.lt_or_ge j (2 * i) with h | h
            · exact HA.out j h a hja
            · rcases Nat.lt_or_ge j (2 * i + 1) with h' | h'
              · obtain rfl : j = 2 * i := by omega
                rw [ga] at hja; cases hja; exact ha
              · obtain rfl : j = 2 * i + 1 := by omega
                rw [gb] at hja; cases hja; exact hb)
          generalize ((part s.data.toList i)[i]'(by omega)) = y at hcell
          have OR := Lib.hid hor
          clear hq ga gb hst hoth ev hlen hor
          go_wp2_with (first
            | (go_at_call 24; (with_reducible refine (valueOf_any _ hpa _).mono ?_); rintro e w' ⟨rfl, rfl⟩)
            | (go_at_call 24; (with_reducible refine (valueOf_any _ hpb _).mono ?_); rintro e w' ⟨rfl, rfl⟩; have hor := OR.out))
          exact ⟨⟨i + 1, by omega, by go_num, HOT.out, HST.out, HN.out, hbel.setCell (p := ⟨w.heap.size + 1, i, none⟩) (by show w.heap.size ≤ w.heap.size + 1; omega) _⟩, by simp [intOf]; omega⟩
        · have NO := Lib.hid (show ¬ pOk s.data.toList = true by
            intro h; unfold pOk at h; simp only [Bool.and_eq_true] at h; exact hb (allOk_get h.2 gb))
          have hb' : dOk (s[2 * i + 1]).toNat = false := by simpa using hb
          clear hb ga gb
          go_wp2_with (first
            | (go_at_call 24; (with_reducible refine (valueOf_any _ hpa _).mono ?_); rintro e w' ⟨rfl, rfl⟩)
            | (go_at_call 24; (with_reducible refine (valueOf_any _ hpb _).mono ?_); rintro e w' ⟨rfl, rfl⟩)
            | (refine wpList_store_row rfl 23 (.tmp 2) (.tmp 40) rfl w.heap.size Z32 rfl rfl 23 Z32 R0.out z32_info rfl z32_one ?_))
          refine bodyPost_ret (v := .tuple #[.agg Z32, .int .i64 4]) (results_row_tmp rfl _ _ w.heap.size 23 Z32 (0, 0) _ _ rfl (setRow_heap' R0.out) Tryd.underlying23 rfl z32_info rfl) rfl ⟨Z32, ?_, ?_, below_setRow hbel (Nat.le_refl _) _⟩
          · rw [(pE_no NO.out).2]; rfl
          · rw [(pE_no NO.out).1]
      · have NO := Lib.hid (show ¬ pOk s.data.toList = true by
          intro h; unfold pOk at h; simp only [Bool.and_eq_true] at h; exact ha (allOk_get h.2 ga))
        have ha' : dOk (s[2 * i]).toNat = false := by simpa using ha
        clear ha ga gb
        go_wp2_with (first
          | (go_at_call 24; (with_reducible refine (valueOf_any _ hpa _).mono ?_); rintro e w' ⟨rfl, rfl⟩)
          | (go_at_call 24; (with_reducible refine (valueOf_any _ hpb _).mono ?_); rintro e w' ⟨rfl, rfl⟩)
          | (refine wpList_store_row rfl 23 (.tmp 2) (.tmp 40) rfl w.heap.size Z32 rfl rfl 23 Z32 R0.out z32_info rfl z32_one ?_))
        refine bodyPost_ret (v := .tuple #[.agg Z32, .int .i64 4]) (results_row_tmp rfl _ _ w.heap.size 23 Z32 (0, 0) _ _ rfl (setRow_heap' R0.out) Tryd.underlying23 rfl z32_info rfl) rfl ⟨Z32, ?_, ?_, below_setRow hbel (Nat.le_refl _) _⟩
        · rw [(pE_no NO.out).2]; rfl
        · rw [(pE_no NO.out).1]
    · obtain rfl : i = 32 := by omega
      rw [part_all _ hl64] at r1
      have hok : pOk s.data.toList = true := by
        unfold pOk
        rw [Bool.and_eq_true]
        exact ⟨by simpa using hl64, allOk_of fun j hj a hja => hall j (by omega) a hja⟩
      obtain ⟨C, hC⟩ : ∃ C, C = (u8s (parseL s.data.toList)).toArray := ⟨_, rfl⟩
      have hI : (Tryd.prog.info? 23).map (·.size) = some C.size := by rw [hC]; exact infoH (parse_length 32 _ (by omega))
      have hz : Z32.size = C.size := by rw [hC]; show Z32.size = (u8s (parseL s.data.toList)).length; rw [u8s_length, parse_length 32 _ (by omega)]; rfl
      have hO : C.all (·.oneCell') = true := by rw [hC]; exact u8s_one _
      unfold Blk at r1
      rw [← hC] at r1
      have HC := Lib.hid hC
      have R0 := Lib.hid r0
      have R1 := Lib.hid r1
      have I := Lib.hid hI
      have O := Lib.hid hO
      have Z := Lib.hid hz
      have OK := Lib.hid hok
      clear hC hI hO hz r0 r1 hok hall
      go_wp2_with (first
        | (refine wpList_load_row rfl 23 (.tmp 4) rfl (w.heap.size + 1) rfl 23 C (0, 0) _ R1.out Tryd.underlying23 rfl I.out ?_)
        | (refine wpList_store_row rfl 23 (.tmp 2) (.tmp 48) rfl w.heap.size C rfl rfl 23 Z32 R0.out I.out Z.out O.out ?_))
      refine bodyPost_ret (v := .tuple #[.agg C, .int .i64 0]) (results_row_tmp rfl _ _ w.heap.size 23 C (0, 0) _ _ rfl (setRow_heap' R0.out) Tryd.underlying23 rfl I.out rfl) rfl ⟨C, ?_, ?_, below_setRow hbel (Nat.le_refl _) _⟩
      · rw [(pE_yes OK.out).2]; exact HC.out
      · rw [(pE_yes OK.out).1]
theorem short_no {s : ByteArray} (h : s.size ≠ 64) : ¬ pOk s.data.toList = true := by
  intro h'
  unfold pOk at h'
  simp only [Bool.and_eq_true, decide_eq_true_eq] at h'
  exact h (by simpa using h'.1)
theorem parse_any (s : ByteArray) (hs : s.size ≤ maxLen) (w : World) :
    Calls Tryd.prog 15 #[.string s] w fun e w' => ∃ C, C = (u8s (pA s.data.toList)).toArray ∧ e = .returned (.tuple #[.agg C, .int .i64 (pE s.data.toList)]) ∧ Below w.heap.size w w' := by
  by_cases h : s.size = 64
  · exact parse_full s h w
  · refine (parse_short s hs h w).mono fun e w' ⟨he, hb⟩ => ⟨Z32, ?_, ?_, hb⟩
    · rw [(pE_no (short_no h)).2]; rfl
    · rw [(pE_no (short_no h)).1]; exact he
end Go.Proofs.YtglciacjfoimlaaDoor.Hc
