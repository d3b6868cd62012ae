/- The document's own Filled, Whole, and the Bag of bytes that are taken from (cambiumref05). -/
import Derived.Test.YtnfcgifkghegjaaGreatDoorNfD
import Derived.Test.YtnfcgifkghegjaaGreatDoorNfE
import Derived.Test.YtnfcgifkghegjaaGreatDoorNdS
import Derived.Test.YtnfcgifkghegjaaGreatDoorNdB
import Derived.Deep.OwnRows
namespace Go.Proofs.YtnfcgifkghegjaaGreatDoor.Nr
set_option linter.unusedVariables false
set_option linter.unusedSimpArgs false
open Go.ChangeShapes Go.WideShapes Go.ChangeAt Go.RowKit
open Nd Ar
open Pk (be num be_length crc u8s u8s_length tN tR tE)
theorem infB1 : (Tryz.prog.info? 5).map (fun i => (i.zero, i.size, i.bytes)) = some (some (.int .u8 0), 1, 1) := by kernel_rfl
/-- a new row of zero bytes, read as a text -/
theorem zeros_conv (n : Nat) (w : World) : (convert 70 9 (.slice (some ⟨w.heap.size, 0, none⟩) n n)).run Tryz.prog (w.alloc (.cells (madeCells #[Value.int .u8 0] n) 5)) = .ok (.string (bs (List.replicate n 0))) (w.alloc (.cells (madeCells #[Value.int .u8 0] n) 5)) := by
  have := run_convert_bytes_back (P := Tryz.prog) (w.alloc (.cells (madeCells #[Value.int .u8 0] n) 5)) 70 9 5 ⟨w.heap.size, 0, none⟩ n (List.replicate n 0) Tryz.underlying70 Tryz.underlying5 Tryz.underlying9 (fun j hj => by
    rw [Ar.add_plain, Nat.zero_add, cell_of_row _ _ j _ _ _ (heap_alloc_new w _)]
    have hj' : j < n := by simpa using hj
    have e : (madeCells #[Value.int .u8 0] n)[j]? = some (.int .u8 0) := by
      rw [← Array.getElem?_toList, toList_madeCells_one, List.getElem?_replicate, if_pos hj']
    rw [e]
    simp)
  rw [List.length_replicate] at this
  exact this
theorem zeros_make (n : Nat) (hn : n ≤ 1048576) (w : World) : (Instr.makeSlice 70 (.int .i64 n) (.int .i64 n)).run Tryz.prog w = .ok (.slice (some ⟨w.heap.size, 0, none⟩) n n) (w.alloc (.cells (madeCells #[Value.int .u8 0] n) 5)) :=
  run_make_row' (P := Tryz.prog) 70 5 (.int .u8 0) 1 Tryz.underlying70 infB1 rfl .i64 .i64 n (by omega) (by omega) w
theorem fill_app (s : ByteArray) (m : Nat) : bs (fillz s.data.toList m) = s ++ bs (List.replicate (m - s.size) 0) := by
  unfold fillz
  rw [← bs_app, data_bs]
  have e : s.data.toList.length = s.size := Array.length_toList
  rw [e]
set_option maxHeartbeats 1000000 in
theorem rfilled_any (s : ByteArray) (h : s.size ≤ 512) (w : World) :
    Calls Tryz.prog 22 #[.string s] w fun e w' => e = .returned (.string (bs (fillz s.data.toList 512))) ∧ Below w.heap.size w w' := by
  rw [fill_app]
  by_cases h5 : s.size = 512
  · have hz : s ++ bs (List.replicate (512 - s.size) 0) = s := by
      rw [h5]
      apply ByteArray.ext
      simp [bs]
    rw [hz]
    clear hz
    have d : decide ((512 : Int) ≤ (s.size : Int)) = true := by simp; omega
    clear h h5
    go_enter Tryz.func22, Tryz.ntmps22
    go_wp2
    go_ret
    exact ⟨rfl, Below.refl _ _⟩
  · have d : decide ((512 : Int) ≤ (s.size : Int)) = false := by simp; omega
    obtain ⟨n, hn⟩ : ∃ n, 512 - s.size = n := ⟨_, rfl⟩
    have e1 : (512 : Int) - (s.size : Int) = (n : Int) := by omega
    have hn5 : n ≤ 512 := by omega
    rw [hn]
    have hmk := zeros_make n (by omega) w
    have hcv := zeros_conv n w
    have hb : Below w.heap.size w (w.alloc (.cells (madeCells #[Value.int .u8 0] n) 5)) := (Below.refl _ _).alloc (Nat.le_refl _) _
    have HB := Lib.hid hb
    have hz1 : (bs (List.replicate n 0)).size ≤ 512 := by rw [bs_size, List.length_replicate]; exact hn5
    generalize bs (List.replicate n 0) = Z at *
    generalize w.alloc (.cells (madeCells #[Value.int .u8 0] n) 5) = W at *
    clear hn h5 hb
    go_enter Tryz.func22, Tryz.ntmps22
    go_wp2
    go_ret
    exact ⟨rfl, HB.out⟩
theorem se1 {s : ByteArray} (h : s.size ≠ 0) : s.toList.isEmpty = false := by rw [ByteArray.toList_eq, List.isEmpty_eq_false_iff]; intro h2; exact h (show s.data.size = 0 by rw [← Array.length_toList, h2]; rfl)
theorem se2 {s : ByteArray} (h : s.size ≠ 0) : ¬ s.toList = [] := by intro h2; have := se1 h; rw [h2] at this; cases this
theorem se3 {s : ByteArray} (h : s.size = 0) : s.toList = [] := by rw [ByteArray.toList_eq]; exact List.eq_nil_of_length_eq_zero (by rw [Array.length_toList]; exact h)
set_option maxRecDepth 100000 in
set_option maxHeartbeats 4000000 in
theorem whole_any (s : ByteArray) (h : s.size ≤ 508) (w : World) :
    Calls Tryz.prog 18 #[.string s] w fun e w' => e = .returned (.string (bs (sealL s.data.toList))) ∧ Below w.heap.size w w' := by
  have hF := fillz_len (l := s.data.toList) (m := 508) (by rw [Array.length_toList]; exact h)
  have hX : sealL s.data.toList = cutz (be 4 (crc (fillz s.data.toList 508)).toNat ++ fillz s.data.toList 508) := rfl
  rw [hX]
  clear hX
  have hfa := fill_app s 508
  obtain ⟨n, hn⟩ : ∃ n, 508 - s.size = n := ⟨_, rfl⟩
  have e1 : (508 : Int) - (s.size : Int) = (n : Int) := by omega
  have hn5 : n ≤ 508 := by omega
  rw [hn] at hfa
  generalize fillz s.data.toList 508 = F at *
  have HS := Lib.hid (show ∀ w, Calls Tryz.prog 38 #[.string (bs F)] w fun e w' => e = .returned (.int .u32 ((crc F).toNat : Nat)) ∧ w = w' from fun w => by
    have := Pk.rsum_any (bs F) w (by rw [bs_size]; omega)
    rw [bs_data] at this
    exact this)
  have HN := Lib.hid (show ∀ w, Calls Tryz.prog 37 #[.int .u64 ((crc F).toNat : Nat), .int .i64 4] w fun e w' => e = .returned (.string (bs (be 4 (crc F).toNat))) ∧ Below w.heap.size w w' from fun w => Pk.ref_bytes (crc F).toNat 4 w (by have := sum_le F; omega) (by omega))
  have hz1 : (bs (be 4 (crc F).toNat)).size ≤ 4 := by rw [bs_size, be_length]; omega
  have hz2 : (bs F).size ≤ 508 := by rw [bs_size]; omega
  have hz3 : (bs (List.replicate n 0)).size ≤ 508 := by rw [bs_size, List.length_replicate]; exact hn5
  have HT := Lib.hid (show bs (be 4 (crc F).toNat) ++ bs F = bs (be 4 (crc F).toNat ++ F) from bs_app _ _)
  have HR := Lib.hid (show Tm.cutB (bs (be 4 (crc F).toNat ++ F)) = bs (cutz (be 4 (crc F).toNat ++ F)) from rfl)
  have hmk := zeros_make n (by omega) w
  have hcv := zeros_conv n w
  have HB := Lib.hid (show Below w.heap.size w (w.alloc (.cells (madeCells #[Value.int .u8 0] n) 5)) from (Below.refl _ _).alloc (Nat.le_refl _) _)
  have hcr : (crc F).toNat < 4294967296 := (crc F).isLt
  generalize w.alloc (.cells (madeCells #[Value.int .u8 0] n) 5) = W at *
  generalize (crc F).toNat = C at *
  have hzT : (bs (be 4 C ++ F)).size ≤ 512 := by rw [bs_size, List.length_append, be_length]; omega
  generalize bs (cutz (be 4 C ++ F)) = R at *
  generalize bs (be 4 C ++ F) = T at *
  generalize bs (be 4 C) = S4 at *
  generalize bs (List.replicate n 0) = Z at *
  generalize bs F = FB at *
  have HFA := Lib.hid hfa.symm
  clear hF hn hfa
  go_enter Tryz.func18, Tryz.ntmps18
  go_wp2_with fail
  rw [HFA.out]
  refine (HS.out _).mono ?_
  rintro e w1 ⟨rfl, rfl⟩
  go_wp2_with fail
  refine (HN.out _).mono ?_
  rintro e w2 ⟨rfl, hb⟩
  have HB2 := Lib.hid (HB.out.trans (hb.mono HB.out.size))
  clear hb HB hmk hcv
  go_wp2_with fail
  rw [HT.out]
  go_loop [0] (fun v => ∃ t : ByteArray, t.size ≤ 512 ∧ v = .string t ∧ Hid (Tm.cutB t = Tm.cutB T)) (fun v => match v with | .string t => t.size | _ => 0)
  case atStart => exact ⟨T, hzT, rfl, rfl⟩
  case round =>
    obtain ⟨t, ht, rfl, hc⟩ := hrel
    by_cases h0 : t.size = 0
    · have HC := Lib.hid ((Tm.cutB_empty h0).symm.trans (Hid.out hc))
      have s3 := se3 h0
      clear hc h0
      go_wp2
      go_ret
      exact ⟨by rw [← HR.out, ← HC.out]; rfl, HB2.out⟩
    · have s1 := se1 h0
      have s2 := se2 h0
      have hp : 0 < t.size := by omega
      have h2 : (0 : Int) ≤ (t.size : Int) - 1 := by omega
      have h3 : ((t.size : Int) - 1).toNat = t.size - 1 := by omega
      have h4 : t.size - 1 < t.size := by omega
      by_cases hz : t[t.size - 1] = 0
      · have HC := Lib.hid ((Tm.cutB_zero hp hz).trans (Hid.out hc))
        have hb : ((t[t.size - 1].toNat : Int) == 0) = true := by rw [hz]; rfl
        have H5 := Lib.hid (show (t.extract 0 (t.size - 1)).size = t.size - 1 by simp)
        clear hc hz
        go_wp2
        exact ⟨⟨_, by rw [H5.out]; omega, rfl, HC.out⟩, by show (t.extract 0 (t.size - 1)).size < t.size; rw [H5.out]; omega⟩
      · have HC := Lib.hid ((Tm.cutB_done hp hz).symm.trans (Hid.out hc))
        have hb : ((t[t.size - 1].toNat : Int) == 0) = false := by
          rw [beq_eq_false_iff_ne]
          intro e
          have e2 : t[t.size - 1].toNat = 0 := by omega
          exact hz (UInt8.toNat.inj e2)
        clear hc hz
        go_wp2
        go_ret
        exact ⟨by rw [← HR.out, ← HC.out]; rfl, HB2.out⟩
/-- a bag in block q -/
def BagAt (w : World) (q : Nat) (S : ByteArray) (bad : Bool) : Prop := w.heap[q]? = some (.cells #[.string S, .bool bad] 50 (0, 0))
theorem BagAt.c0 {w : World} {q : Nat} {S : ByteArray} {bad : Bool} (h : BagAt w q S bad) : w.cell? ⟨q, 0, none⟩ = some (.string S) := cell_of_row _ _ 0 _ _ _ h
theorem BagAt.c1 {w : World} {q : Nat} {S : ByteArray} {bad : Bool} (h : BagAt w q S bad) : w.cell? ⟨q, 1, none⟩ = some (.bool bad) := cell_of_row _ _ 1 _ _ _ h
theorem BagAt.fr {w : World} {q : Nat} {S : ByteArray} {bad : Bool} (h : BagAt w q S bad) (i : Nat) : w.frozen? ⟨q, i, none⟩ = false := frozen_of_row w q _ _ _ h
theorem BagAt.lt {w : World} {q : Nat} {S : ByteArray} {bad : Bool} (h : BagAt w q S bad) : q < w.heap.size := row_lt h
theorem BagAt.below {w w' : World} {q : Nat} {S : ByteArray} {bad : Bool} (h : BagAt w q S bad) (hb : Below w.heap.size w w') : BagAt w' q S bad := (hb.block q h.lt).trans h
theorem BagAt.set0 {w : World} {q : Nat} {S S' : ByteArray} {bad : Bool} (h : BagAt w q S bad) : BagAt (w.setCell ⟨q, 0, none⟩ (.string S')) q S' bad := by
  unfold BagAt at *
  simp [World.setCell, h, Array.getElem?_modify]
theorem BagAt.set1 {w : World} {q : Nat} {S : ByteArray} {bad : Bool} (h : BagAt w q S bad) : BagAt (w.setCell ⟨q, 1, none⟩ (.bool true)) q S true := by
  unfold BagAt at *
  simp [World.setCell, h, Array.getElem?_modify]
/-- taken bytes, and what is left; where there are too few, zero bytes -/
theorem some_good (S : ByteArray) (n q : Nat) (hn : n ≤ S.size) (hS : S.size ≤ 9223372036854775807) (w : World) (h : BagAt w q S false) :
    Calls Tryz.prog 75 #[.pointer (some ⟨q, 0, none⟩), .int .i64 n] w fun e w' => e = .returned (.string (S.extract 0 n)) ∧ BagAt w' q (S.extract n S.size) false ∧ w.grownBy w' (some q) := by
  have c0 := h.c0
  have c1 := h.c1
  have f0 := h.fr 0
  have d : decide ((S.size : Int) < (n : Int)) = false := by simp; omega
  have H0 := Lib.hid (h.set0 (S' := S.extract n S.size))
  have HG := Lib.hid (grown_setCell w ⟨q, 0, none⟩ (.string (S.extract n S.size)))
  clear h
  go_enter Tryz.func75, Tryz.ntmps75
  go_wp2
  go_ret
  exact ⟨rfl, H0.out, HG.out⟩
set_option maxRecDepth 100000 in
set_option maxHeartbeats 1000000 in
theorem some_bad (S : ByteArray) (n q : Nat) (bad : Bool) (hn : bad = true ∨ S.size < n) (hz : n ≤ 1048576) (w : World) (h : BagAt w q S bad) :
    Calls Tryz.prog 75 #[.pointer (some ⟨q, 0, none⟩), .int .i64 n] w fun e w' => e = .returned (.string (bs (List.replicate n 0))) ∧ BagAt w' q S true ∧ w.grownBy w' (some q) := by
  have c0 := h.c0
  have c1 := h.c1
  have f1 := h.fr 1
  have H1 := Lib.hid (h.set1)
  have HG := Lib.hid (grown_setCell w ⟨q, 1, none⟩ (.bool true))
  have hsz : (w.setCell ⟨q, 1, none⟩ (.bool true)).heap.size = w.heap.size := by simp
  have hmk := zeros_make n hz (w.setCell ⟨q, 1, none⟩ (.bool true))
  have hcv := zeros_conv n (w.setCell ⟨q, 1, none⟩ (.bool true))
  rw [hsz] at hmk hcv
  have HA := Lib.hid (fun W : World => (Below.refl W.heap.size W).alloc (Nat.le_refl _) (.cells (madeCells #[Value.int .u8 0] n) 5))
  clear h
  cases bad
  · have hlt : S.size < n := by rcases hn with h | h <;> first | exact h | cases h
    have d : decide ((S.size : Int) < (n : Int)) = true := by simp; omega
    have d2 : decide (S.size < n) = true := by simp; omega
    clear hn hlt
    go_enter Tryz.func75, Tryz.ntmps75
    go_wp2
    go_ret
    exact ⟨rfl, H1.out.below (HA.out _), grown_trans HG.out (grown_of_below (HA.out _) _)⟩
  · clear hn
    go_enter Tryz.func75, Tryz.ntmps75
    go_wp2
    go_ret
    exact ⟨rfl, H1.out.below (HA.out _), grown_trans HG.out (grown_of_below (HA.out _) _)⟩
/-- a number is taken -/
theorem number_good (S : ByteArray) (k q : Nat) (h1 : 1 ≤ k) (h2 : k ≤ 8) (hn : k ≤ S.size) (hS : S.size ≤ 140737488351232) (w : World) (h : BagAt w q S false) :
    Calls Tryz.prog 48 #[.pointer (some ⟨q, 0, none⟩), .int .i64 k] w fun e w' => e = .returned (.int .u64 (num (S.data.toList.take k))) ∧ BagAt w' q (S.extract k S.size) false ∧ w.grownBy w' (some q) := by
  have HS := Lib.hid (some_good S k q hn (by omega) w h)
  have hz : (S.extract 0 k).size = k := by simp; omega
  have HT := Lib.hid (fun w => Pk.ref_take_any (S.extract 0 k) k w (by unfold maxLen; omega))
  have HV := Lib.hid (show tN (S.extract 0 k) (k : Int) = (num (S.data.toList.take k) : Nat) by
    have hx : (S.extract 0 k).data.toList = S.data.toList.take k := by
      rw [ByteArray.data_extract, Array.toList_extract, List.extract_eq_take_drop]; simp
    unfold tN
    rw [if_pos ⟨by omega, by omega, by rw [Int.toNat_natCast, hz]; exact Nat.le_refl _⟩, Int.toNat_natCast, hx, List.take_take, Nat.min_self])
  rw [HV.out] at HT
  generalize S.extract 0 k = X at *
  clear h hz
  go_enter Tryz.func48, Tryz.ntmps48
  go_wp2_with fail
  refine HS.out.mono ?_
  rintro e w1 ⟨rfl, hbag, hg⟩
  have HBG := Lib.hid hbag
  have HGR := Lib.hid hg
  clear hbag hg HS
  go_wp2_with fail
  refine (HT.out _).mono ?_
  rintro e w2 ⟨rfl, hb⟩
  have HBG2 := Lib.hid (HBG.out.below hb)
  have HGR2 := Lib.hid (grown_trans HGR.out (grown_of_below hb _))
  clear hb HBG HGR
  go_wp2
  go_ret
  exact ⟨rfl, HBG2.out, HGR2.out⟩
end Go.Proofs.YtnfcgifkghegjaaGreatDoor.Nr
