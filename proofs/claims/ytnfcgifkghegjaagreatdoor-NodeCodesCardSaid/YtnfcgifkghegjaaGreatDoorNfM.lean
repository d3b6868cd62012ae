/- The document's Bag: a hash is taken. -/
import Derived.Test.YtnfcgifkghegjaaGreatDoorNfL
import Derived.Test.YtnfcgifkghegjaaGreatDoorSuN
import Derived.Test.YtnfcgifkghegjaaGreatDoorRgT
import Derived.Laws.CopyOwn
namespace Go.Proofs.YtnfcgifkghegjaaGreatDoor.Nr
set_option linter.unusedVariables false
set_option linter.unusedSimpArgs false
open Go.ChangeShapes Go.WideShapes Go.ChangeAt Go.RowKit
open Nd Ar Rg
open BigFrame
open Pk (be num u8s u8s_length)
theorem info8h : (Tryz.prog.info? 5).map (·.size) = some 1 := by kernel_rfl
theorem infoH32 : (Tryz.prog.info? 53).map (·.size) = some 32 := by kernel_rfl
theorem far_row {w w1 : World} {q g : Nat} (h : w.grownBy w1 (some q)) (hg : w.heap.size ≤ g) (cs : Array Value) : w.grownBy (w1.setRow g cs) (some q) := by
  have h2 := grown_setRow w1 g cs
  refine ⟨h2.os.trans h.os, h2.tape.trans h.tape, h2.output.trans h.output, Nat.le_trans h.size h2.size, fun k hk hne => (h2.block k (Nat.lt_of_lt_of_le hk h.size) (fun e => by cases e; omega)).trans (h.block k hk hne)⟩
theorem bag_far {w : World} {q g : Nat} {s : S} (h : BagR w q s) (hg : g ≠ q) (cs : Array Value) : BagR (w.setRow g cs) q s := by
  obtain ⟨S, h1, h2, h3⟩ := h
  exact ⟨S, (setRow_other w g q cs (Ne.symm hg)).trans h1, h2, h3⟩
set_option maxRecDepth 100000 in
set_option maxHeartbeats 4000000 in
theorem hash_R (s : S) (q : Nat) (w : World) (h : BagR w q s) :
    Calls Tryz.prog 50 #[.pointer (some ⟨q, 0, none⟩)] w fun e w' => ∃ l : List UInt8, e = .returned (.agg (u8s l).toArray) ∧ l.length = 32 ∧ ((tkHash s).2.2 = false → l = (tkHash s).1) ∧ BagR w' q (tkHash s).2 ∧ w.grownBy w' (some q) := by
  have hq : q < w.heap.size := by obtain ⟨S, h1, _⟩ := h; exact h1.lt
  have TB := Lib.hid (Sp.box2 w zH zH 53 53)
  have HBG := Lib.hid (h.below TB.out.2.2.1)
  have HQ := Lib.hid hq
  have HE1 := Lib.hid (show (tkHash s).2 = (tkBytes 32 s).2 from rfl)
  have HE2 := Lib.hid (fun (X : ByteArray) (hz : X.size = 32) (hX : (tkBytes 32 s).2.2 = false → X.data.toList = (tkBytes 32 s).1) (hf : (tkHash s).2.2 = false) => (by
    have e := hX hf
    unfold tkHash
    rw [← e, Array.length_toList, show X.data.size = 32 from hz]
    simp : X.data.toList = (tkHash s).1))
  clear h hq
  go_enter Tryz.func50, Tryz.ntmps50
  go_wp2_with fail
  change Code.wp _ _ _ _ ((w.alloc (.cells zH 53)).alloc (.cells zH 53))
  generalize (w.alloc _).alloc _ = W at *
  refine wp_region_T (fun w' : World => True) 3 (by kernel_rfl) (by kernel_rfl) ?_
  have hS : True := trivial
  refine take_T 0 4 (.slice (some ⟨w.heap.size + 1, 0, none⟩) 32 32) rfl (by rfl) (by kernel_rfl) (by decide) (by kernel_rfl) (by kernel_rfl) (by kernel_rfl) (fun _ _ _ h => h) (Or.inl ⟨by rfl, fun w' hSw => by go_simp⟩) hS ?_
  simp only [List.setIfInBounds_toArray, List.set_cons_zero, List.set_cons_succ]
  refine take_T 1 5 (.pointer (some ⟨q, 0, none⟩)) rfl (by rfl) (by kernel_rfl) (by decide) (by kernel_rfl) (by kernel_rfl) (by kernel_rfl) (fun _ _ _ h => h) (Or.inl ⟨by rfl, fun w' hSw => by go_simp⟩) hS ?_
  simp only [List.setIfInBounds_toArray, List.set_cons_zero, List.set_cons_succ]
  refine only_T 2 rfl (by kernel_rfl) (by decide) (by rfl) (fun K hK => ?_)
  go_simp
  have hbg : BagR W.drew q s := HBG.out
  refine (some_R s 32 q (by omega) W.drew hbg).mono ?_
  rintro e w3 ⟨X, rfl, hz, hX, hB, hg⟩
  have HX := Lib.hid (HE2.out X hz hX)
  have HB3 := Lib.hid (show BagR w3 q (tkHash s).2 by rw [HE1.out]; exact hB)
  have HG3 := Lib.hid (show w.grownBy w3 (some q) from grown_trans (grown_trans (grown_of_below TB.out.2.2.1 _) (grown_drew W _)) hg)
  have HR3 := Lib.hid (show w3.heap[w.heap.size + 1]? = some (.cells zH 53 (0, 0)) from (hg.block _ TB.out.2.2.2 (fun e => by cases e; have := HQ.out; omega)).trans TB.out.2.1)
  have HQ3 := Lib.hid (show w3.heap[w.heap.size]? = some (.cells zH 53 (0, 0)) from (hg.block _ (by have := TB.out.2.2.2; show w.heap.size < W.heap.size; omega) (fun e => by cases e; have := HQ.out; omega)).trans TB.out.1)
  have HZ := Lib.hid (show 32 ≤ X.size by omega)
  have hxl : X.data.toList.length = 32 := by rw [Array.length_toList]; exact hz
  have HXL := Lib.hid hxl
  have HCP := Lib.hid (show (zH.toList.take 0 ++ Lib.byteCells (X.data.toList.take 32) ++ zH.toList.drop (0 + 32)).toArray = (u8s X.data.toList).toArray by
    rw [List.take_of_length_le (show X.data.toList.length ≤ 32 by omega)]
    show ([] ++ u8s X.data.toList ++ []).toArray = _
    rw [List.append_nil, List.nil_append])
  have HI := Lib.hid (show (Tryz.prog.info? 53).map (·.size) = some (u8s X.data.toList).toArray.size by rw [List.size_toArray, u8s_length, hxl]; exact infoH32)
  have HO := Lib.hid (all_of_one (u8s_cell X.data.toList))
  have HSZ := Lib.hid (show zH.size = (u8s X.data.toList).toArray.size by rw [show (u8s X.data.toList).toArray.size = 32 by rw [List.size_toArray, u8s_length, hxl]]; rfl)
  clear hz hX hB hg hbg HBG TB hxl
  have hS2 : True := trivial
  refine hK.out _ _ hS2 ?_
  clear hK K
  try simp only [Act.put, List.setIfInBounds_toArray, List.set_cons_zero, List.set_cons_succ]
  refine done_T (by kernel_rfl) ?_
  simp only [List.drop_succ_cons, List.drop_zero]
  clear hS hS2
  obtain ⟨C, hC⟩ : ∃ C, (u8s X.data.toList).toArray = C := ⟨_, rfl⟩
  have HC := Lib.hid hC
  rw [hC] at HCP HI HO HSZ
  clear hC
  go_wp2_with (first
    | (refine Sp.wpList_copy_long rfl (.tmp 4) (.tmp 6) 70 9 rfl 5 Tryz.underlying70 info8h (w.heap.size + 1) 0 32 32 rfl X rfl zH 53 HR3.out HZ.out (show 0 + 32 ≤ 32 from Nat.le_refl _) C HCP.out ?_; have HR4 := Lib.hid (setRow_heap' (cs := C) HR3.out); have HQ4 := Lib.hid ((setRow_other w3 (w.heap.size + 1) w.heap.size C (by omega)).trans HQ3.out); have HG4 := Lib.hid (far_row HG3.out (Nat.le_succ _) C); have HB4 := Lib.hid (show BagR (w3.setRow (w.heap.size + 1) C) q (tkHash s).2 from bag_far HB3.out (by have := HQ.out; omega) C); generalize w3.setRow (w.heap.size + 1) C = w4 at *; clear HR3 HQ3 HG3 HB3)
    | (refine wpList_load_row rfl 53 (.tmp 3) rfl (w.heap.size + 1) rfl 53 C (0, 0) _ HR4.out Tryz.underlying53 rfl HI.out ?_)
    | (refine wpList_store_row rfl 53 (.tmp 2) (.tmp 8) rfl w.heap.size C rfl rfl 53 zH HQ4.out HI.out HSZ.out HO.out ?_))
  have HQ5 := setRow_heap' (cs := C) HQ4.out
  have HG5 := far_row HG4.out (Nat.le_refl _) C
  have HB5 := bag_far HB4.out (show w.heap.size ≠ q by have := HQ.out; omega) C
  refine bodyPost_ret (v := .agg C) (results_cell_row rfl _ _ w.heap.size 53 C (0, 0) _ rfl HQ5 Tryz.underlying53 rfl HI.out) rfl ?_
  exact ⟨X.data.toList, by rw [HC.out], HXL.out, HX.out, HB5, HG5⟩
end Go.Proofs.YtnfcgifkghegjaaGreatDoor.Nr
