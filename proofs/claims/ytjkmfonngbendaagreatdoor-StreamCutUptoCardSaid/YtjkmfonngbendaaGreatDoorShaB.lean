/- Contracts of package hash's words and steps. -/
import Derived.Test.YtjkmfonngbendaaGreatDoorShaA
import Derived.Test.YtjkmfonngbendaaGreatDoorShaM
import Derived.Deep.RegionHeld
import Derived.StillTailTactics
import Derived.Laws.Rows
import Derived.Laws.Tables
import Derived.Deep.MidRow
namespace Go.Proofs.YtjkmfonngbendaaGreatDoor.Hk
set_option linter.unusedVariables false
open Go.ChangeShapes Go.WideShapes Go.ChangeAt Go.RowKit
/-- an array of words in a block of its own -/
def Row (w : World) (g : Nat) (t : TypeId) (l : List (BitVec 32)) : Prop := w.heap[g]? = some (.cells (arr l) t (0, 0))
theorem Row.cell {w : World} {g : Nat} {t : TypeId} {l : List (BitVec 32)} (h : Row w g t l) {j : Nat} {x : BitVec 32} (hx : l[j]? = some x) : w.cell? ⟨g, j, none⟩ = some (.int .u32 (vN x)) :=
  (cell_of_row w g j (arr l) t (0, 0) h).trans (arr_get l j x hx)
theorem Row.free {w : World} {g : Nat} {t : TypeId} {l : List (BitVec 32)} (h : Row w g t l) (j : Nat) : w.frozen? ⟨g, j, none⟩ = false := frozen_of_row w g j (arr l) t h
theorem Row.set {w : World} {g : Nat} {t : TypeId} {l : List (BitVec 32)} (h : Row w g t l) (j : Nat) (x : BitVec 32) : Row (w.setCell ⟨g, j, none⟩ (.int .u32 (vN x))) g t (l.set j x) := by
  have := heap_setCell_same w g j (arr l) t (.int .u32 (vN x)) h
  rw [arr_set] at this
  exact this
theorem Row.other {w : World} {g : Nat} {t : TypeId} {l : List (BitVec 32)} (h : Row w g t l) (g' j : Nat) (v : Value) (hne : g ≠ g') : Row (w.setCell ⟨g', j, none⟩ v) g t l :=
  (heap_setCell_other w ⟨g', j, none⟩ g v hne).trans h
theorem Row.drew {w : World} {g : Nat} {t : TypeId} {l : List (BitVec 32)} (h : Row w g t l) : Row w.drew g t l := h
theorem byte_get (s : ByteArray) (j : Nat) (h : j < s.size) : s[j] = s.data.toList.getD j 0 := by
  rw [List.getD_eq_getElem?_getD, List.getElem?_eq_getElem (by simpa using h)]
  rfl
theorem wd_get (s : ByteArray) (t : Nat) (h : 4 * t + 3 < s.size) : wd s.data.toList t = word4 (s[4 * t]'(by omega)) (s[4 * t + 1]'(by omega)) (s[4 * t + 2]'(by omega)) (s[4 * t + 3]'(by omega)) := by
  rw [wd, byte_get, byte_get, byte_get, byte_get]
theorem nxt_low (f : Nat → BitVec 32) (l : List (BitVec 32)) (t : Nat) (h : t < 16) : nxt f l t = f t := by rw [nxt, if_pos h]
theorem nxt_high (f : Nat → BitVec 32) (l : List (BitVec 32)) (t : Nat) (h : ¬ t < 16) : nxt f l t = sp1 (l.getD (t - 2) 0) + l.getD (t - 7) 0 + sp0 (l.getD (t - 15) 0) + l.getD (t - 16) 0 := by rw [nxt, if_neg h]
theorem below_setRow {B : Nat} {w w1 : World} (h : Below B w w1) {g : Nat} (hg : B ≤ g) (cs : Array Value) : Below B w (w1.setRow g cs) :=
  h.trans ⟨rfl, rfl, rfl, by simp, fun k hk => setRow_other w1 g k cs (by omega)⟩
theorem infoW : (Tryz.prog.info? 190).map (·.size) = some 64 := by kernel_rfl
theorem vN_wadd (a b : BitVec 32) : IntKind.u32.wrap (vN a + vN b) = vN (a + b) := by rw [IntKind.wrap_u32', vN_add]
theorem spread0_still (x : BitVec 32) (w : World) : Calls Tryz.prog 160 #[.int .u32 (vN x)] w fun e w' => e = .returned (.int .u32 (vN (sp0 x))) ∧ w' = w := (spread0_any x w).mono fun _ _ h => ⟨h.1, h.2.symm⟩
theorem spread1_still (x : BitVec 32) (w : World) : Calls Tryz.prog 159 #[.int .u32 (vN x)] w fun e w' => e = .returned (.int .u32 (vN (sp1 x))) ∧ w' = w := (spread1_any x w).mono fun _ _ h => ⟨h.1, h.2.symm⟩
set_option maxRecDepth 100000 in
set_option maxHeartbeats 1000000 in
theorem words_any (s : ByteArray) (hs : s.size = 64) (w : World) :
    Calls Tryz.prog 117 #[.string s] w fun e w' => e = .returned (.agg (arr (wl (wd s.data.toList) 64))) ∧ Below w.heap.size w w' := by
  have HS := Lib.hid hs
  have hs' : (64 : Int) ≤ s.size := by omega
  clear hs
  go_enter Tryz.func117, Tryz.ntmps117
  go_wp2
  go_loopw [6] (fun v wr => ∃ t : Nat, t ≤ 16 ∧ v = .int .i64 t ∧ Row wr w.heap.size 190 (List.replicate 64 0#32) ∧ Row wr (w.heap.size + 1) 190 (wf (wd s.data.toList) 64 t) ∧ Below w.heap.size w wr) (fun v _ => 16 - (intOf v).toNat)
  case atStart => exact ⟨0, Nat.zero_le _, rfl, heap_alloc2_old w _ _, heap_alloc2_new w _ _, ((Below.refl _ _).alloc (Nat.le_refl _) _).alloc (by simp) _⟩
  case round =>
    obtain ⟨t, ht, rfl, hr0, hr1, hbel⟩ := hrel
    by_cases hlt : t < 16
    · have j0 : 4 * t < s.size := by have := HS.out; omega
      have j1 : 4 * t + 1 < s.size := by have := HS.out; omega
      have j2 : 4 * t + 2 < s.size := by have := HS.out; omega
      have j3 : 4 * t + 3 < s.size := by have := HS.out; omega
      have HW := Lib.hid (word4_n (s[4 * t]'j0) (s[4 * t + 1]'j1) (s[4 * t + 2]'j2) (s[4 * t + 3]'j3))
      have HN := Lib.hid (show nxt (wd s.data.toList) (wl (wd s.data.toList) t) t = word4 (s[4 * t]'j0) (s[4 * t + 1]'j1) (s[4 * t + 2]'j2) (s[4 * t + 3]'j3) by rw [nxt_low _ _ _ hlt, wd_get _ _ j3])
      obtain ⟨x, hx⟩ : ∃ x, (wf (wd s.data.toList) 64 t)[t]? = some x := ⟨_, List.getElem?_eq_getElem (by rw [wf_length _ _ _ (by omega)]; omega)⟩
      have hc := hr1.cell hx
      have hf := hr1.free t
      have H0 := Lib.hid hr0
      have H1 := Lib.hid hr1
      have i0 : 4 * (t : Int) < s.size := by omega
      have i1 : 4 * (t : Int) + 1 < s.size := by omega
      have i2 : 4 * (t : Int) + 2 < s.size := by omega
      have i3 : 4 * (t : Int) + 3 < s.size := by omega
      clear hr0 hr1 hx
      have q0 : IntKind.i64.wrap (4 * (t : Int)) = 4 * (t : Int) := IntWalk.i64_in _ ⟨by omega, by omega⟩
      have q1 : IntKind.i64.wrap (4 * (t : Int) + 1) = 4 * (t : Int) + 1 := IntWalk.i64_in _ ⟨by omega, by omega⟩
      have q2 : IntKind.i64.wrap (4 * (t : Int) + 2) = 4 * (t : Int) + 2 := IntWalk.i64_in _ ⟨by omega, by omega⟩
      have q3 : IntKind.i64.wrap (4 * (t : Int) + 3) = 4 * (t : Int) + 3 := IntWalk.i64_in _ ⟨by omega, by omega⟩
      have p0 : (4 * (t : Int)).toNat = 4 * t := by omega
      have p1 : (4 * (t : Int) + 1).toNat = 4 * t + 1 := by omega
      have p2 : (4 * (t : Int) + 2).toNat = 4 * t + 2 := by omega
      have p3 : (4 * (t : Int) + 3).toNat = 4 * t + 3 := by omega
      have n0 : 0 ≤ 4 * (t : Int) := by omega
      have n1 : 0 ≤ 4 * (t : Int) + 1 := by omega
      have n2 : 0 ≤ 4 * (t : Int) + 2 := by omega
      have n3 : 0 ≤ 4 * (t : Int) + 3 := by omega
      have t0 : 0 ≤ (t : Int) := by omega
      have t1 : (t : Int) < 64 := by omega
      have b0 := wrap_b
      have b1 := wrap_b8
      have b2 := wrap_b16
      have b3 := wrap_b24
      go_wp2
      go_still_tail 31, (by kernel_rfl)
      change wpList _ _ _ _ _ wr.drew
      have HD := Lib.hid (show Row wr.drew (w.heap.size + 1) 190 (wf (wd s.data.toList) 64 t) from H1.out)
      have HE := Lib.hid (show Row wr.drew w.heap.size 190 (List.replicate 64 0#32) from H0.out)
      have hc' : wr.drew.cell? ⟨w.heap.size + 1, t, none⟩ = some (.int .u32 (vN x)) := hc
      have hf' : wr.drew.frozen? ⟨w.heap.size + 1, t, none⟩ = false := hf
      have hbel' : Below w.heap.size w wr.drew := hbel.drew
      clear hc hf hbel H0 H1
      generalize wr.drew = w2 at *
      rw [HW.out]
      go_wp2
      go_roundw
      case rel =>
        have hs1 := HD.out.set t (word4 (s[4 * t]'j0) (s[4 * t + 1]'j1) (s[4 * t + 2]'j2) (s[4 * t + 3]'j3))
        have hn := wf_set (wd s.data.toList) 64 t (by omega)
        rw [HN.out] at hn
        rw [hn] at hs1
        exact ⟨t + 1, by omega, by go_num, HE.out.other (w.heap.size + 1) t _ (by omega), hs1, hbel'.setCell (p := ⟨w.heap.size + 1, t, none⟩) (by show w.heap.size ≤ w.heap.size + 1; omega) _⟩
      case measure => simp [intOf]; omega
    · obtain rfl : t = 16 := by omega
      obtain ⟨wo, rfl⟩ : ∃ wo : World, wo = wr := ⟨_, rfl⟩
      have H0 := Lib.hid hr0
      have H1 := Lib.hid hr1
      clear hr0 hr1
      go_wp2
      go_loopw [5] (fun v wr => ∃ t : Nat, 16 ≤ t ∧ t ≤ 64 ∧ v = .int .i64 t ∧ Row wr w.heap.size 190 (List.replicate 64 0#32) ∧ Row wr (w.heap.size + 1) 190 (wf (wd s.data.toList) 64 t) ∧ Below w.heap.size w wr) (fun v _ => 64 - (intOf v).toNat)
      case atStart => exact ⟨16, Nat.le_refl _, by omega, rfl, H0.out, H1.out, hbel⟩
      case round =>
        obtain ⟨t, ht0, ht, rfl, hr0, hr1, hbel⟩ := hrel
        by_cases hlt : t < 64
        · obtain ⟨x, hx⟩ : ∃ x, (wf (wd s.data.toList) 64 t)[t]? = some x := ⟨_, List.getElem?_eq_getElem (by rw [wf_length _ _ _ (by omega)]; omega)⟩
          have hc := hr1.cell hx
          have hf := hr1.free t
          obtain ⟨m2, hm2⟩ : ∃ m : Nat, m = t - 2 := ⟨_, rfl⟩
          have g2 := hr1.cell (wf_getD (wd s.data.toList) 64 t m2 (by omega))
          have q2 : IntKind.i64.wrap ((t : Int) - 2) = (m2 : Int) := by rw [IntWalk.i64_in _ ⟨by omega, by omega⟩]; omega
          have n2 : 0 ≤ (m2 : Int) := by omega
          have l2 : (m2 : Int) < 64 := by omega
          obtain ⟨m7, hm7⟩ : ∃ m : Nat, m = t - 7 := ⟨_, rfl⟩
          have g7 := hr1.cell (wf_getD (wd s.data.toList) 64 t m7 (by omega))
          have q7 : IntKind.i64.wrap ((t : Int) - 7) = (m7 : Int) := by rw [IntWalk.i64_in _ ⟨by omega, by omega⟩]; omega
          have n7 : 0 ≤ (m7 : Int) := by omega
          have l7 : (m7 : Int) < 64 := by omega
          obtain ⟨m15, hm15⟩ : ∃ m : Nat, m = t - 15 := ⟨_, rfl⟩
          have g15 := hr1.cell (wf_getD (wd s.data.toList) 64 t m15 (by omega))
          have q15 : IntKind.i64.wrap ((t : Int) - 15) = (m15 : Int) := by rw [IntWalk.i64_in _ ⟨by omega, by omega⟩]; omega
          have n15 : 0 ≤ (m15 : Int) := by omega
          have l15 : (m15 : Int) < 64 := by omega
          obtain ⟨m16, hm16⟩ : ∃ m : Nat, m = t - 16 := ⟨_, rfl⟩
          have g16 := hr1.cell (wf_getD (wd s.data.toList) 64 t m16 (by omega))
          have q16 : IntKind.i64.wrap ((t : Int) - 16) = (m16 : Int) := by rw [IntWalk.i64_in _ ⟨by omega, by omega⟩]; omega
          have n16 : 0 ≤ (m16 : Int) := by omega
          have l16 : (m16 : Int) < 64 := by omega
          have HD := Lib.hid (show Row wr.drew (w.heap.size + 1) 190 (wf (wd s.data.toList) 64 t) from hr1)
          have HE := Lib.hid (show Row wr.drew w.heap.size 190 (List.replicate 64 0#32) from hr0)
          have hn := nxt_high (wd s.data.toList) (wl (wd s.data.toList) t) t (by omega)
          rw [← hm2, ← hm7, ← hm15, ← hm16] at hn
          have HN := Lib.hid hn
          clear hr0 hr1 hx hn hm2 hm7 hm15 hm16
          generalize (wl (wd s.data.toList) t).getD m2 0 = x2 at *
          generalize (wl (wd s.data.toList) t).getD m7 0 = x7 at *
          generalize (wl (wd s.data.toList) t).getD m15 0 = x15 at *
          generalize (wl (wd s.data.toList) t).getD m16 0 = x16 at *
          have t0 : 0 ≤ (t : Int) := by omega
          have t1 : (t : Int) < 64 := by omega
          have X := vN_wadd
          go_wp2
          go_still_tail 23, (by kernel_rfl)
          still_call (spread1_still _ _)
          repeat still_step
          still_call (spread0_still _ _)
          repeat still_step
          refine wpStill_nil ?_
          change wpList _ _ _ _ _ wr.drew
          have hc' : wr.drew.cell? ⟨w.heap.size + 1, t, none⟩ = some (.int .u32 (vN x)) := hc
          have hf' : wr.drew.frozen? ⟨w.heap.size + 1, t, none⟩ = false := hf
          have hbel' : Below w.heap.size w wr.drew := hbel.drew
          clear hc hf hbel g2 g7 g15 g16
          generalize wr.drew = w2 at *
          go_wp2
          go_roundw
          case rel =>
            have hs1 := HD.out.set t (sp1 x2 + x7 + sp0 x15 + x16)
            have hn := wf_set (wd s.data.toList) 64 t hlt
            rw [HN.out] at hn
            rw [hn] at hs1
            repeat apply Exists.intro
            exact ⟨⟨t + 1, by omega, by omega, by go_num, HE.out.other (w.heap.size + 1) t _ (by omega), hs1, hbel'.setCell (p := ⟨w.heap.size + 1, t, none⟩) (by show w.heap.size ≤ w.heap.size + 1; omega) _⟩, rfl⟩
          case measure => simp [intOf]; omega
        · obtain rfl : t = 64 := by omega
          rw [wf_all] at hr1
          have hz : (arr (wl (wd s.data.toList) 64)).size = 64 := by rw [arr_size, wl_length]
          have hz0 : (arr (List.replicate 64 0#32)).size = 64 := by rw [arr_size, List.length_replicate]
          have hone := arr_one (wl (wd s.data.toList) 64)
          have hR0 : wr.heap[w.heap.size]? = some (.cells (arr (List.replicate 64 0#32)) 190 (0, 0)) := hr0
          have hR1 : wr.heap[w.heap.size + 1]? = some (.cells (arr (wl (wd s.data.toList) 64)) 190 (0, 0)) := hr1
          have hi : (Tryz.prog.info? 190).map (·.size) = some (arr (wl (wd s.data.toList) 64)).size := by rw [hz]; exact infoW
          obtain ⟨C, hC⟩ : ∃ C, C = arr (wl (wd s.data.toList) 64) := ⟨_, rfl⟩
          obtain ⟨C0, hC0⟩ : ∃ C, C = arr (List.replicate 64 0#32) := ⟨_, rfl⟩
          rw [← hC] at hz hone hR1 hi
          rw [← hC0] at hz0 hR0
          have HC := Lib.hid hC
          have Z := Lib.hid (show C0.size = C.size by omega)
          have R0 := Lib.hid hR0
          have R1 := Lib.hid hR1
          have I := Lib.hid hi
          have O := Lib.hid hone
          clear hC hC0 hz hz0 hR0 hR1 hi hone hr0 hr1
          go_wp2_with (first
            | (refine wpList_load_row rfl 190 (.tmp 3) rfl (w.heap.size + 1) rfl 190 C (0, 0) _ R1.out Tryz.underlying190 rfl I.out ?_)
            | (refine wpList_store_row rfl 190 (.tmp 2) (.tmp 68) rfl w.heap.size C rfl rfl 190 C0 R0.out I.out Z.out O.out ?_))
          have hg2 := setRow_heap wr w.heap.size C0 C 190 (0, 0) R0.out
          refine bodyPost_ret (v := .agg C) (results_cell_row rfl _ _ w.heap.size 190 C (0, 0) _ rfl hg2 Tryz.underlying190 rfl I.out) rfl ⟨by rw [HC.out], below_setRow hbel (Nat.le_refl _) C⟩
end Go.Proofs.YtjkmfonngbendaaGreatDoor.Hk
