/- Contracts of package super: numbers, Slot, Check. -/
import Derived.Test.YtlchjohaacbkpaaGreatDoorLs
import Derived.Test.YtlchjohaacbkpaaGreatDoorSuM
import Derived.Test.YtlchjohaacbkpaaGreatDoorNdS
import Derived.Test.YtlchjohaacbkpaaGreatDoorZrg
import Derived.Test.YtlchjohaacbkpaaGreatDoorNdB
namespace Go.Proofs.YtlchjohaacbkpaaGreatDoor.Sp
set_option linter.unusedVariables false
set_option linter.unusedSimpArgs false
open Go.ChangeShapes Go.WideShapes Go.ChangeAt Go.RowKit
open Nd Rg
open BigFrame
open Pk (be num be_length nB nE numOk number_any u8s u8s_length)
theorem numS (n k : Nat) (w : World) (h1 : 1 ≤ k) (h2 : k ≤ 8) (h : n < 256 ^ k) :
    Calls Tryz.prog 95 #[.int .u64 n, .int .i64 k] w fun e w' => e = .returned (.string (bs (be k n))) ∧ Below w.heap.size w w' := by
  have h0 : n < 18446744073709551616 := Nat.lt_of_lt_of_le h (Nat.pow_le_pow_right (by omega) h2)
  have HC := Lib.hid (fun w => number_any n k w h0)
  rw [nB_be h1 h2 h] at HC
  clear h h0
  go_enter Tryz.func95, Tryz.ntmps95
  go_wp2_with (go_at_call 117; refine (HC.out _).mono ?_; rintro e w' ⟨rfl, hbel⟩)
  go_ret
  exact ⟨rfl, hbel⟩
/-- a superblock as a value -/
def esS (s : Su) : List Value := .int .u32 s.Z :: .int .u64 s.G :: .int .u32 s.T :: u8s s.hs
def vS (s : Su) : Value := .agg (esS s).toArray
theorem esS_len {s : Su} (h : s.hs.length = 32) : (esS s).length = 35 := by unfold esS; rw [List.length_cons, List.length_cons, List.length_cons, u8s_length, h]
theorem esS_one (s : Su) : ∀ u ∈ esS s, u.oneCell' = true := by
  intro u hu
  unfold esS at hu
  rcases List.mem_cons.1 hu with rfl | hu
  · rfl
  · rcases List.mem_cons.1 hu with rfl | hu
    · rfl
    · rcases List.mem_cons.1 hu with rfl | hu
      · rfl
      · exact u8s_cell _ u hu
theorem infoS35 : (Tryz.prog.info? 44).map (·.size) = some 35 := by kernel_rfl
theorem infoSa {s : Su} (h : s.hs.length = 32) : (Tryz.prog.info? 44).map (·.size) = some (esS s).toArray.size := by rw [List.size_toArray, esS_len h]; exact infoS35
theorem esS_0 (s : Su) : (esS s).toArray[0]? = some (.int .u32 s.Z) := by simp [esS]
theorem esS_1 (s : Su) : (esS s).toArray[1]? = some (.int .u64 s.G) := by simp [esS]
theorem esS_2 (s : Su) : (esS s).toArray[2]? = some (.int .u32 s.T) := by simp [esS]
/-- the bytes of an array's cells, read as a text -/
theorem conv_hash {w' : World} {q o : Nat} {l : List UInt8} (h : l.length = 32) (hr : w'.rangeAt q o (u8s l)) :
    (convert 54 9 (.slice (some ⟨q, o, none⟩) 32 32)).run Tryz.prog w' = .ok (.string (bs l)) w' := by
  have := run_convert_bytes_back (P := Tryz.prog) w' 54 9 5 ⟨q, o, none⟩ 32 l Tryz.underlying54 Tryz.underlying5 Tryz.underlying9 (fun j hj => by
    rw [Ar.add_plain]
    exact hr j _ (by unfold u8s; rw [List.getElem?_map, List.getElem?_eq_getElem hj]; rfl))
  rw [h] at this
  exact this
theorem slot_any (s : Su) (w : World) :
    Calls Tryz.prog 33 #[vS s] w fun e w' => e = .returned (.int .i64 (slotS s : Nat)) ∧ Below w.heap.size w w' := by
  unfold vS slotS
  obtain ⟨C, hC⟩ : ∃ C, (esS s).toArray = C := ⟨_, rfl⟩
  have R0 := Lib.hid (heap_alloc_new w (.cells C 44))
  have B0 := Lib.hid ((Below.refl w.heap.size w).alloc (Nat.le_refl _) (.cells C 44))
  have c1 : (w.alloc (.cells C 44)).cell? ⟨w.heap.size, 1, none⟩ = some (.int .u64 s.G) := (cell_of_row _ _ 1 _ _ _ R0.out).trans (by rw [← hC]; exact esS_1 s)
  rw [hC]
  clear hC
  obtain ⟨Z, G, T, hs⟩ := s
  dsimp only at *
  have HM := Lib.hid (show ((G % 2 : Nat) : Int) = (G : Int) % 2 by omega)
  rw [HM.out]
  go_enter Tryz.func33, Tryz.ntmps33
  go_wp2
  go_ret
  exact ⟨rfl, B0.out⟩
set_option maxHeartbeats 4000000 in
theorem check_su (s : Su) (w : World) :
    Calls Tryz.prog 31 #[vS s] w fun e w' => e = .returned (.int .i64 (chS s)) ∧ Below w.heap.size w w' := by
  unfold vS chS okS
  obtain ⟨C, hC⟩ : ∃ C, (esS s).toArray = C := ⟨_, rfl⟩
  have R0 := Lib.hid (heap_alloc_new w (.cells C 44))
  have B0 := Lib.hid ((Below.refl w.heap.size w).alloc (Nat.le_refl _) (.cells C 44))
  have c0 : (w.alloc (.cells C 44)).cell? ⟨w.heap.size, 0, none⟩ = some (.int .u32 s.Z) := (cell_of_row _ _ 0 _ _ _ R0.out).trans (by rw [← hC]; exact esS_0 s)
  have c1 : (w.alloc (.cells C 44)).cell? ⟨w.heap.size, 1, none⟩ = some (.int .u64 s.G) := (cell_of_row _ _ 1 _ _ _ R0.out).trans (by rw [← hC]; exact esS_1 s)
  have c2 : (w.alloc (.cells C 44)).cell? ⟨w.heap.size, 2, none⟩ = some (.int .u32 s.T) := (cell_of_row _ _ 2 _ _ _ R0.out).trans (by rw [← hC]; exact esS_2 s)
  rw [hC]
  clear hC R0
  obtain ⟨Z, G, T, hs⟩ := s
  dsimp only at *
  obtain ⟨q1, h1⟩ : ∃ q, decide (16 ≤ Z) = q := ⟨_, rfl⟩
  obtain ⟨q2, h2⟩ : ∃ q, decide (Z ≤ 65536) = q := ⟨_, rfl⟩
  obtain ⟨q3, h3⟩ : ∃ q, decide (1 ≤ G) = q := ⟨_, rfl⟩
  obtain ⟨q4, h4⟩ : ∃ q, decide (G ≤ 4611686018427387904) = q := ⟨_, rfl⟩
  obtain ⟨q5, h5⟩ : ∃ q, decide (2 ≤ T) = q := ⟨_, rfl⟩
  obtain ⟨q6, h6⟩ : ∃ q, decide (T < Z) = q := ⟨_, rfl⟩
  rw [h1, h2, h3, h4, h5, h6]
  have d1 : decide ((16 : Int) ≤ (Z : Int)) = q1 := by rw [← h1]; exact decide_eq_decide.2 (by omega)
  have d2 : decide ((Z : Int) ≤ 65536) = q2 := by rw [← h2]; exact decide_eq_decide.2 (by omega)
  have d3 : decide ((1 : Int) ≤ (G : Int)) = q3 := by rw [← h3]; exact decide_eq_decide.2 (by omega)
  have d4 : decide ((G : Int) ≤ 4611686018427387904) = q4 := by rw [← h4]; exact decide_eq_decide.2 (by omega)
  have d5 : decide ((2 : Int) ≤ (T : Int)) = q5 := by rw [← h5]; exact decide_eq_decide.2 (by omega)
  clear h1 h2 h3 h4 h5
  cases q1
  · skip
    cases q3
    · skip
      cases q5
      · skip
        go_enter Tryz.func31, Tryz.ntmps31
        go_wp2
        go_ret
        exact ⟨rfl, B0.out⟩
      · cases q6
        · skip
          go_enter Tryz.func31, Tryz.ntmps31
          go_wp2
          go_ret
          exact ⟨rfl, B0.out⟩
        · skip
          go_enter Tryz.func31, Tryz.ntmps31
          go_wp2
          go_ret
          exact ⟨rfl, B0.out⟩
    · cases q4
      · skip
        cases q5
        · skip
          go_enter Tryz.func31, Tryz.ntmps31
          go_wp2
          go_ret
          exact ⟨rfl, B0.out⟩
        · cases q6
          · skip
            go_enter Tryz.func31, Tryz.ntmps31
            go_wp2
            go_ret
            exact ⟨rfl, B0.out⟩
          · skip
            go_enter Tryz.func31, Tryz.ntmps31
            go_wp2
            go_ret
            exact ⟨rfl, B0.out⟩
      · skip
        cases q5
        · skip
          go_enter Tryz.func31, Tryz.ntmps31
          go_wp2
          go_ret
          exact ⟨rfl, B0.out⟩
        · cases q6
          · skip
            go_enter Tryz.func31, Tryz.ntmps31
            go_wp2
            go_ret
            exact ⟨rfl, B0.out⟩
          · skip
            go_enter Tryz.func31, Tryz.ntmps31
            go_wp2
            go_ret
            exact ⟨rfl, B0.out⟩
  · cases q2
    · skip
      cases q3
      · skip
        cases q5
        · skip
          go_enter Tryz.func31, Tryz.ntmps31
          go_wp2
          go_ret
          exact ⟨rfl, B0.out⟩
        · cases q6
          · skip
            go_enter Tryz.func31, Tryz.ntmps31
            go_wp2
            go_ret
            exact ⟨rfl, B0.out⟩
          · skip
            go_enter Tryz.func31, Tryz.ntmps31
            go_wp2
            go_ret
            exact ⟨rfl, B0.out⟩
      · cases q4
        · skip
          cases q5
          · skip
            go_enter Tryz.func31, Tryz.ntmps31
            go_wp2
            go_ret
            exact ⟨rfl, B0.out⟩
          · cases q6
            · skip
              go_enter Tryz.func31, Tryz.ntmps31
              go_wp2
              go_ret
              exact ⟨rfl, B0.out⟩
            · skip
              go_enter Tryz.func31, Tryz.ntmps31
              go_wp2
              go_ret
              exact ⟨rfl, B0.out⟩
        · skip
          cases q5
          · skip
            go_enter Tryz.func31, Tryz.ntmps31
            go_wp2
            go_ret
            exact ⟨rfl, B0.out⟩
          · cases q6
            · skip
              go_enter Tryz.func31, Tryz.ntmps31
              go_wp2
              go_ret
              exact ⟨rfl, B0.out⟩
            · skip
              go_enter Tryz.func31, Tryz.ntmps31
              go_wp2
              go_ret
              exact ⟨rfl, B0.out⟩
    · skip
      cases q3
      · skip
        cases q5
        · skip
          go_enter Tryz.func31, Tryz.ntmps31
          go_wp2
          go_ret
          exact ⟨rfl, B0.out⟩
        · cases q6
          · skip
            go_enter Tryz.func31, Tryz.ntmps31
            go_wp2
            go_ret
            exact ⟨rfl, B0.out⟩
          · skip
            go_enter Tryz.func31, Tryz.ntmps31
            go_wp2
            go_ret
            exact ⟨rfl, B0.out⟩
      · cases q4
        · skip
          cases q5
          · skip
            go_enter Tryz.func31, Tryz.ntmps31
            go_wp2
            go_ret
            exact ⟨rfl, B0.out⟩
          · cases q6
            · skip
              go_enter Tryz.func31, Tryz.ntmps31
              go_wp2
              go_ret
              exact ⟨rfl, B0.out⟩
            · skip
              go_enter Tryz.func31, Tryz.ntmps31
              go_wp2
              go_ret
              exact ⟨rfl, B0.out⟩
        · skip
          cases q5
          · skip
            go_enter Tryz.func31, Tryz.ntmps31
            go_wp2
            go_ret
            exact ⟨rfl, B0.out⟩
          · cases q6
            · skip
              go_enter Tryz.func31, Tryz.ntmps31
              go_wp2
              go_ret
              exact ⟨rfl, B0.out⟩
            · skip
              go_enter Tryz.func31, Tryz.ntmps31
              go_wp2
              go_ret
              exact ⟨rfl, B0.out⟩
end Go.Proofs.YtlchjohaacbkpaaGreatDoor.Sp
