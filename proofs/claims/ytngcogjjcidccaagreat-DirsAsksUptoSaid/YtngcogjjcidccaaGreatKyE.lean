/- The document's own reading of bytes as a key. -/
import Derived.Test.YtngcogjjcidccaaGreatKyD
namespace Go.Proofs.YtngcogjjcidccaaGreat.Ino
set_option linter.unusedVariables false
set_option linter.unusedSimpArgs false
open Go.ChangeShapes Go.WideShapes Go.ChangeAt Go.RowKit
open BigFrame
open Rg
open Pk (be num be_length num_be num_lt bs bs_size nB nE tN tR tE xB_size ref_bytes ref_take_any)
open Ph (has tl tl_len nb refName_any)
theorem deK_of {s : ByteArray} (h : rkB s) : deK s = rkN s ∧ deKE s = 0 := by
  have h1 := (askK s).1.2 h
  unfold deK deKE
  rw [if_pos h1, if_pos h1]
  exact ⟨((askK s).2 h).symm, rfl⟩
theorem deK_no {s : ByteArray} (h : ¬ rkB s) : deK s = zKy ∧ deKE s = 4 := by
  have h1 : ¬ (okK (tkK s) = true ∧ wrK (tkK s) = s) := fun h2 => h ((askK s).1.1 h2)
  unfold deK deKE
  rw [if_neg h1, if_neg h1]
  exact ⟨rfl, rfl⟩
theorem rkN_lim (s : ByteArray) : (rkN s).lim := by
  have h3 := tN4 (s.extract 1 s.size)
  have h4 := tN4 (tR (s.extract 1 s.size) 4)
  have h5 := kd_le s
  refine ⟨?_, ?_, ?_⟩
  · show kd s < 256; omega
  · simp only [rkN]; omega
  · simp only [rkN]
    split <;> omega
theorem ex_list (s : ByteArray) (i j : Nat) : (s.extract i j).data.toList = (s.data.toList.drop i).take (j - i) := by
  rw [ByteArray.data_extract, Array.toList_extract, List.extract_eq_take_drop]
/-- a kind's letter is the first byte -/
theorem first_letter {s : ByteArray} (h : 1 ≤ s.size) (k : Nat) (h1 : 1 ≤ k) (h2 : k ≤ 4) : (ltB k = s.extract 0 1) ↔ kd s = k := by
  constructor
  · intro e
    have hs : s = ltB k ++ s.extract 1 s.size := by
      rw [e]
      apply ByteArray.ext
      apply Array.toList_inj.1
      rw [ByteArray.data_append, Array.toList_append, ex_list, ex_list, List.drop_zero, List.take_of_length_le (i := s.size - 1) (by rw [List.length_drop, Array.length_toList]; exact Nat.le_refl _)]
      exact (List.take_append_drop 1 _).symm
    have := (kd_app (lt_of h1 h2) (s.extract 1 s.size)).1
    unfold ltB at hs
    rw [← hs] at this
    exact this
  · intro e
    have h0 : kd s ≠ 0 := by omega
    have hh := (head_cut h0).1
    have hl := (kd_app (lt_of h1 h2) ByteArray.empty).2.2
    rw [e] at hh
    have : s.extract 0 1 = ltB k := by
      conv => lhs; rw [← hh]
      exact ByteArray.extract_append_eq_left (by rw [bs_size, hl])
    exact this.symm
theorem below_q (w : World) (q : Nat) : Below w.heap.size w (w.drewN q) := ⟨rfl, rfl, rfl, Nat.le_refl _, fun _ _ => rfl⟩
theorem kinds_cell (i : Nat) (h : i < 4) : (#[.int .u8 1, .int .u8 2, .int .u8 3, .int .u8 4] : Array Value)[i]? = some (.int .u8 ((i + 1 : Nat) : Int)) := by
  rcases (show i = 0 ∨ i = 1 ∨ i = 2 ∨ i = 3 by omega) with rfl | rfl | rfl | rfl <;> rfl
/-- what holds while the document looks for the kind -/
def AtK (s : ByteArray) (g0 g1 : Nat) (w0 wr : World) (i : Nat) : Prop :=
  (kd s = 0 ∨ i + 1 ≤ kd s ∨ ¬ rkB s) ∧ wr.heap[g0]? = some (.cells #[.int .u8 0, .int .u32 0, .string ⟨#[]⟩, .int .u32 0] 75 (0, 0)) ∧ wr.heap[g1]? = some (.cells #[.int .u8 1, .int .u8 2, .int .u8 3, .int .u8 4] 73 (0, 0)) ∧ g0 < wr.heap.size ∧ g1 < wr.heap.size ∧ Below g0 w0 wr
theorem AtK.go {s : ByteArray} {g0 g1 : Nat} {w0 wr w' : World} {i : Nat} (h : AtK s g0 g1 w0 wr i) (hb : Below wr.heap.size wr w') (j : Nat) (hj : kd s = 0 ∨ j + 1 ≤ kd s ∨ ¬ rkB s) : AtK s g0 g1 w0 w' j := by
  obtain ⟨_, a, b, c, d, e⟩ := h
  exact ⟨hj, row_bel a hb c, row_bel b hb d, Nat.lt_of_lt_of_le c hb.size, Nat.lt_of_lt_of_le d hb.size, e.trans (hb.mono (Nat.le_of_lt c))⟩
set_option maxRecDepth 100000 in
set_option maxHeartbeats 4000000 in
theorem refParse_in (s : ByteArray) (hs : s.size ≤ maxLen) (w : World) :
    Calls Tryz.prog 25 #[.string s] w fun e w' => e = .returned (.tuple #[vK (deK s), .int .i64 (deKE s)]) ∧ Below w.heap.size w w' := by
  have R0 := Lib.hid (heap_alloc_new w (.cells #[.int .u8 0, .int .u32 0, .string ⟨#[]⟩, .int .u32 0] 75))
  have B0 := Lib.hid ((Below.refl w.heap.size w).alloc (Nat.le_refl _) (.cells #[.int .u8 0, .int .u32 0, .string ⟨#[]⟩, .int .u32 0] 75))
  have hsz : w.heap.size < (w.alloc (.cells #[.int .u8 0, .int .u32 0, .string ⟨#[]⟩, .int .u32 0] 75)).heap.size := by simp
  have fin : Hid (∀ (V : World), V.heap[w.heap.size]? = some (.cells #[.int .u8 0, .int .u32 0, .string ⟨#[]⟩, .int .u32 0] 75 (0, 0)) → ∀ cs, (V.setRow w.heap.size cs).heap[w.heap.size]? = some (.cells cs 75 (0, 0))) := Lib.hid (fun V h cs => setRow_heap' h)
  by_cases h5 : 5 ≤ s.size
  · have d5 : decide ((s.size : Int) < 5) = false := by simp; omega
    have hpos : 1 ≤ s.size := by omega
    obtain ⟨r0, hr0⟩ : ∃ r, s.extract 1 s.size = r := ⟨_, rfl⟩
    obtain ⟨I, hI⟩ : ∃ K, (tN r0 ((4 : Nat) : Int)).toNat = K := ⟨_, rfl⟩
    obtain ⟨r1, hr1⟩ : ∃ r, tR r0 ((4 : Nat) : Int) = r := ⟨_, rfl⟩
    obtain ⟨x0, hx0⟩ : ∃ r, tE r0 ((4 : Nat) : Int) = r := ⟨_, rfl⟩
    obtain ⟨C, hC⟩ : ∃ K, (tN r1 ((4 : Nat) : Int)).toNat = K := ⟨_, rfl⟩
    obtain ⟨r2, hr2⟩ : ∃ r, tR r1 ((4 : Nat) : Int) = r := ⟨_, rfl⟩
    obtain ⟨x1, hx1⟩ : ∃ r, tE r1 ((4 : Nat) : Int) = r := ⟨_, rfl⟩
    have hn : rkN s = ⟨kd s, I, if kd s = 3 then ByteArray.empty else r1, if kd s = 3 then C else 0⟩ := by subst hr0 hI hr1 hC; rfl
    have HB : Hid (rkB s ↔ (kd s ≠ 0 ∧ (kd s = 3 → x1 = 0 ∧ r2 = ByteArray.empty) ∧ okK (rkN s) = true)) := Lib.hid (by
      have h3 : rkB s ↔ (5 ≤ s.size ∧ kd s ≠ 0 ∧ (kd s = 3 → x1 = 0 ∧ r2 = ByteArray.empty) ∧ okK (rkN s) = true) := by subst hr0 hI hr1 hC hr2 hx1; exact Iff.rfl
      rw [h3]
      exact ⟨fun h => h.2, fun h => ⟨h5, h⟩⟩)
    have z0 : r0.size ≤ maxLen := by rw [← hr0, ByteArray.size_extract]; omega
    have z1 : r1.size ≤ maxLen := by rw [← hr1]; exact Nat.le_trans (tR_le _ _) z0
    have HZ1 := Lib.hid z1
    have hI4 : I < 4294967296 := by have := tN4 r0; rw [← hI]; have h2 : (tN r0 ((4 : Nat) : Int)) = tN r0 4 := rfl; omega
    have hC4 : C < 4294967296 := by have := tN4 r1; rw [← hC]; have h2 : (tN r1 ((4 : Nat) : Int)) = tN r1 4 := rfl; omega
    have C1 := Lib.hid (refTakeNat r0 4 I r1 x0 z0 (by omega) hI hr1 hx0)
    have C2 := Lib.hid (refTakeNat r1 4 C r2 x1 z1 (by omega) hC hr2 hx1)
    have U1 := Lib.hid (u32_id hI4)
    have U2 := Lib.hid (u32_id hC4)
    have HR0 := Lib.hid hr0
    have HNN := Lib.hid hn
    have HLM := Lib.hid (rkN_lim s)
    unfold maxLen at hs
    clear hr0 hI hr1 hx0 hC hr2 hx1 hn z0 z1 hI4 hC4
    go_enter Tryz.func25, Tryz.ntmps25
    go_wp2_with fail
    change Calls _ _ _ (w.alloc (.cells #[.int .u8 0, .int .u32 0, .string ⟨#[]⟩, .int .u32 0] 75)) _
    generalize w.alloc (.cells #[.int .u8 0, .int .u32 0, .string ⟨#[]⟩, .int .u32 0] 75) = W at *
    rw [HR0.out]
    refine (C1.out _).mono ?_
    rintro e w1 ⟨rfl, hb⟩
    have R1 := Lib.hid (row_bel R0.out hb hsz)
    have B1 := Lib.hid (B0.out.trans (hb.mono B0.out.size))
    replace hsz := Nat.lt_of_lt_of_le hsz hb.size
    clear hb R0 B0 C1
    have G1 := Lib.hid (heap_alloc_new w1 (.cells #[.int .u8 1, .int .u8 2, .int .u8 3, .int .u8 4] 73))
    have GB := Lib.hid ((Below.refl w1.heap.size w1).alloc (Nat.le_refl _) (.cells #[.int .u8 1, .int .u8 2, .int .u8 3, .int .u8 4] 73))
    have gsz : w1.heap.size < (w1.alloc (.cells #[.int .u8 1, .int .u8 2, .int .u8 3, .int .u8 4] 73)).heap.size := by simp
    have A0 := Lib.hid (show AtK s w.heap.size w1.heap.size w (w1.alloc (.cells #[.int .u8 1, .int .u8 2, .int .u8 3, .int .u8 4] 73)) 0 from ⟨by omega, row_bel R1.out GB.out hsz, G1.out, by omega, gsz, B1.out.trans (GB.out.mono B1.out.size)⟩)
    have u1 := U1.out
    have HU1 := Lib.hid u1
    clear u1 G1 GB gsz R1 B1
    obtain ⟨g1, hg1⟩ : ∃ g, w1.heap.size = g := ⟨_, rfl⟩
    rw [hg1] at A0
    go_wp2_with fail
    clear hg1
    go_loopw [26] (fun v wr => ∃ i : Nat, i ≤ 4 ∧ v = .int .i64 i ∧ Hid (AtK s w.heap.size g1 w wr i)) (fun v _ => 4 - (intOf v).toNat)
    case atStart => exact ⟨0, by omega, by go_num, A0⟩
    case round =>
      obtain ⟨i, hi, rfl, HA⟩ := hrel
      by_cases hlt : i < 4
      · obtain ⟨k, hk⟩ : ∃ k, i + 1 = k := ⟨_, rfl⟩
        have kc : wr.cell? ⟨g1, i, none⟩ = some (.int .u8 (k : Int)) := (cell_of_row wr g1 i #[.int .u8 1, .int .u8 2, .int .u8 3, .int .u8 4] 73 (0, 0) (Hid.out HA).2.2.1).trans (by rw [kinds_cell i hlt, hk])
        have hk1 : 1 ≤ k := by omega
        have hk4 : k ≤ 4 := by omega
        have FL := Lib.hid (first_letter hpos k hk1 hk4)
        have HK := Lib.hid hk
        by_cases hm : kd s = k
        · have hle : ltB k = s.extract 0 1 := FL.out.2 hm
          have t1 : ((ltB k).toList != (s.extract 0 1).toList) = false := by rw [hle]; exact (eq_str _).1
          have t2 : ((ltB k).toList == (s.extract 0 1).toList) = true := by rw [hle]; exact (eq_str _).2
          have HLE := Lib.hid hle
          have HM := Lib.hid hm
          clear hle hm hk
          go_wp2_with fail
          go_quiet ((go_at_call 41; exact Calls.quiet_of_same ((refLetter_in k _).mono fun e w2 h => ⟨h.1, h.2.symm⟩)))
          have HA2 := Lib.hid ((Hid.out HA).go (below_q wr nq) i (Hid.out HA).1)
          generalize World.drewN wr nq = W5 at *
          have N1 := Lib.hid (new_row2 (old := #[.int .u8 0, .int .u32 0, .string ⟨#[]⟩, .int .u32 0]) (cs := #[.int .u8 k, .int .u32 I, .string r1, .int .u32 0]) (t := 75) (Hid.out HA2).2.1)
          cases q3 : decide (k = 3)
          · have K3 := eqz3 q3
            have n3 := of_decide_eq_false q3
            have HN1 := Lib.hid (show rkN s = ⟨k, I, r1, 0⟩ by rw [HNN.out, HM.out, if_neg n3, if_neg n3])
            have HL1 := Lib.hid (show (⟨k, I, r1, 0⟩ : Ky).lim by rw [← HN1.out]; exact HLM.out)
            have CR := Lib.hid (refRight_in ⟨k, I, r1, 0⟩ HL1.out HZ1.out)
            unfold vK at CR
            dsimp only at CR
            have HBB := Lib.hid (show rkB s ↔ okK ⟨k, I, r1, 0⟩ = true by rw [HB.out, HN1.out, HM.out]; exact ⟨fun h => h.2.2, fun h => ⟨by omega, fun h3 => absurd h3 n3, h⟩⟩)
            clear q3 n3
            have u1 := HU1.out
            cases hq : okK ⟨k, I, r1, 0⟩
            · have hno : ¬ rkB s := by rw [HBB.out, hq]; decide
              have HNO := Lib.hid hno
              rw [hq] at CR
              clear hq hno HBB
              go_wp2_with (refine wpList_store_row rfl 75 (.tmp 9) (.tmp 39) rfl W5.heap.size #[.int .u8 k, .int .u32 I, .string r1, .int .u32 0] rfl rfl 75 #[.int .u8 0, .int .u32 0, .string ⟨#[]⟩, .int .u32 0] (heap_alloc_new W5 _) (by kernel_rfl) rfl (row4 _ _ _ _) ?_; change wpList _ _ _ _ _ ((W5.alloc (.cells #[.int .u8 0, .int .u32 0, .string ⟨#[]⟩, .int .u32 0] 75)).setRow W5.heap.size #[.int .u8 k, .int .u32 I, .string r1, .int .u32 0]); generalize ((W5.alloc (.cells #[.int .u8 0, .int .u32 0, .string ⟨#[]⟩, .int .u32 0] 75)).setRow W5.heap.size #[.int .u8 k, .int .u32 I, .string r1, .int .u32 0]) = W3 at *; have c0 : W3.cell? ⟨W5.heap.size, 0, none⟩ = some (.int .u8 k) := (cell_of_row W3 W5.heap.size 0 #[.int .u8 k, .int .u32 I, .string r1, .int .u32 0] 75 (0, 0) N1.out.2.1).trans rfl; have f0 : W3.frozen? ⟨W5.heap.size, 0, none⟩ = false := frozen_of_row W3 W5.heap.size 0 #[.int .u8 k, .int .u32 I, .string r1, .int .u32 0] 75 N1.out.2.1; have c1 : W3.cell? ⟨W5.heap.size, 1, none⟩ = some (.int .u32 I) := (cell_of_row W3 W5.heap.size 1 #[.int .u8 k, .int .u32 I, .string r1, .int .u32 0] 75 (0, 0) N1.out.2.1).trans rfl; have f1 : W3.frozen? ⟨W5.heap.size, 1, none⟩ = false := frozen_of_row W3 W5.heap.size 1 #[.int .u8 k, .int .u32 I, .string r1, .int .u32 0] 75 N1.out.2.1; have c2 : W3.cell? ⟨W5.heap.size, 2, none⟩ = some (.string r1) := (cell_of_row W3 W5.heap.size 2 #[.int .u8 k, .int .u32 I, .string r1, .int .u32 0] 75 (0, 0) N1.out.2.1).trans rfl; have f2 : W3.frozen? ⟨W5.heap.size, 2, none⟩ = false := frozen_of_row W3 W5.heap.size 2 #[.int .u8 k, .int .u32 I, .string r1, .int .u32 0] 75 N1.out.2.1; have c3 : W3.cell? ⟨W5.heap.size, 3, none⟩ = some (.int .u32 0) := (cell_of_row W3 W5.heap.size 3 #[.int .u8 k, .int .u32 I, .string r1, .int .u32 0] 75 (0, 0) N1.out.2.1).trans rfl; have f3 : W3.frozen? ⟨W5.heap.size, 3, none⟩ = false := frozen_of_row W3 W5.heap.size 3 #[.int .u8 k, .int .u32 I, .string r1, .int .u32 0] 75 N1.out.2.1)
              refine (CR.out _).mono ?_
              rintro e w6 ⟨rfl, hb⟩
              have A6 := Lib.hid ((Hid.out HA2).go (N1.out.2.2.1.trans (hb.mono N1.out.2.2.1.size)) (i + 1) (.inr (.inr HNO.out)))
              clear hb c0 c1 c2 c3 f0 f1 f2 f3 N1
              go_wp2_with fail
              refine ⟨⟨i + 1, by omega, by go_num, A6⟩, ?_⟩
              clear u1
              simp [intOf]; omega
            · have HF := Lib.hid (deK_of (HBB.out.2 hq))
              rw [hq] at CR
              clear hq HBB
              go_wp2_with (refine wpList_store_row rfl 75 (.tmp 9) (.tmp 39) rfl W5.heap.size #[.int .u8 k, .int .u32 I, .string r1, .int .u32 0] rfl rfl 75 #[.int .u8 0, .int .u32 0, .string ⟨#[]⟩, .int .u32 0] (heap_alloc_new W5 _) (by kernel_rfl) rfl (row4 _ _ _ _) ?_; change wpList _ _ _ _ _ ((W5.alloc (.cells #[.int .u8 0, .int .u32 0, .string ⟨#[]⟩, .int .u32 0] 75)).setRow W5.heap.size #[.int .u8 k, .int .u32 I, .string r1, .int .u32 0]); generalize ((W5.alloc (.cells #[.int .u8 0, .int .u32 0, .string ⟨#[]⟩, .int .u32 0] 75)).setRow W5.heap.size #[.int .u8 k, .int .u32 I, .string r1, .int .u32 0]) = W3 at *; have c0 : W3.cell? ⟨W5.heap.size, 0, none⟩ = some (.int .u8 k) := (cell_of_row W3 W5.heap.size 0 #[.int .u8 k, .int .u32 I, .string r1, .int .u32 0] 75 (0, 0) N1.out.2.1).trans rfl; have f0 : W3.frozen? ⟨W5.heap.size, 0, none⟩ = false := frozen_of_row W3 W5.heap.size 0 #[.int .u8 k, .int .u32 I, .string r1, .int .u32 0] 75 N1.out.2.1; have c1 : W3.cell? ⟨W5.heap.size, 1, none⟩ = some (.int .u32 I) := (cell_of_row W3 W5.heap.size 1 #[.int .u8 k, .int .u32 I, .string r1, .int .u32 0] 75 (0, 0) N1.out.2.1).trans rfl; have f1 : W3.frozen? ⟨W5.heap.size, 1, none⟩ = false := frozen_of_row W3 W5.heap.size 1 #[.int .u8 k, .int .u32 I, .string r1, .int .u32 0] 75 N1.out.2.1; have c2 : W3.cell? ⟨W5.heap.size, 2, none⟩ = some (.string r1) := (cell_of_row W3 W5.heap.size 2 #[.int .u8 k, .int .u32 I, .string r1, .int .u32 0] 75 (0, 0) N1.out.2.1).trans rfl; have f2 : W3.frozen? ⟨W5.heap.size, 2, none⟩ = false := frozen_of_row W3 W5.heap.size 2 #[.int .u8 k, .int .u32 I, .string r1, .int .u32 0] 75 N1.out.2.1; have c3 : W3.cell? ⟨W5.heap.size, 3, none⟩ = some (.int .u32 0) := (cell_of_row W3 W5.heap.size 3 #[.int .u8 k, .int .u32 I, .string r1, .int .u32 0] 75 (0, 0) N1.out.2.1).trans rfl; have f3 : W3.frozen? ⟨W5.heap.size, 3, none⟩ = false := frozen_of_row W3 W5.heap.size 3 #[.int .u8 k, .int .u32 I, .string r1, .int .u32 0] 75 N1.out.2.1)
              refine (CR.out _).mono ?_
              rintro e w6 ⟨rfl, hb⟩
              have A6 := Lib.hid ((Hid.out HA2).go (N1.out.2.2.1.trans (hb.mono N1.out.2.2.1.size)) i (Hid.out HA2).1)
              have Rn := Lib.hid (row_bel N1.out.2.1 hb N1.out.2.2.2)
              clear hb c0 c1 c2 c3 f0 f1 f2 f3 N1
              go_wp2_with (first
                | (refine wpList_load_row rfl 75 (.tmp 9) rfl W5.heap.size rfl 75 #[.int .u8 k, .int .u32 I, .string r1, .int .u32 0] (0, 0) _ Rn.out Tryz.underlying75 rfl (by kernel_rfl) ?_)
                | (refine wpList_store_row rfl 75 (.tmp 2) (.tmp 61) rfl w.heap.size #[.int .u8 k, .int .u32 I, .string r1, .int .u32 0] rfl rfl 75 #[.int .u8 0, .int .u32 0, .string ⟨#[]⟩, .int .u32 0] A6.out.2.1 (by kernel_rfl) rfl (row4 _ _ _ _) ?_))
              refine bodyPost_ret (v := .tuple #[.agg #[.int .u8 k, .int .u32 I, .string r1, .int .u32 0], .int .i64 0]) (results_row2 rfl _ _ w.heap.size 75 #[.int .u8 k, .int .u32 I, .string r1, .int .u32 0] (0, 0) _ rfl (fin.out _ A6.out.2.1 _) Tryz.underlying75 rfl (by kernel_rfl) _ rfl) rfl ?_
              exact ⟨by rw [HF.out.1, HF.out.2, HN1.out]; rfl, below_setRow A6.out.2.2.2.2.2 (Nat.le_refl _) _⟩
          · have K3 := eqz3 q3
            have n3 := of_decide_eq_true q3
            have HN1 := Lib.hid (show rkN s = ⟨k, I, ByteArray.empty, C⟩ by rw [HNN.out, HM.out, if_pos n3, if_pos n3])
            have HL1 := Lib.hid (show (⟨k, I, ByteArray.empty, C⟩ : Ky).lim by rw [← HN1.out]; exact HLM.out)
            have CR := Lib.hid (refRight_in ⟨k, I, ByteArray.empty, C⟩ HL1.out (Nat.zero_le _))
            unfold vK at CR
            dsimp only at CR
            have HBB := Lib.hid (show rkB s ↔ (x1 = 0 ∧ r2 = ByteArray.empty) ∧ okK ⟨k, I, ByteArray.empty, C⟩ = true by rw [HB.out, HN1.out, HM.out]; exact ⟨fun h => ⟨h.2.1 n3, h.2.2⟩, fun h => ⟨by omega, fun _ => h.1, h.2⟩⟩)
            clear q3 n3
            have u1 := HU1.out
            by_cases hx : x1 = 0
            · have x1a : (x1 != 0) = false := by rw [hx]; rfl
              by_cases hy : r2.size = 0
              · obtain ⟨y1, y2⟩ := emp_of (decide_eq_true hy)
                have y3 := emp_yes hy
                have HBC := Lib.hid (show rkB s ↔ okK ⟨k, I, ByteArray.empty, C⟩ = true by rw [HBB.out]; exact ⟨fun h => h.2, fun h => ⟨⟨hx, size0 hy⟩, h⟩⟩)
                have HX0 := Lib.hid hx
                have hne : w.heap.size ≠ W5.heap.size := Nat.ne_of_lt (Hid.out HA2).2.2.2.1
                clear hx hy HBB
                go_wp2_with (refine wpList_store_row rfl 75 (.tmp 9) (.tmp 39) rfl W5.heap.size #[.int .u8 k, .int .u32 I, .string r1, .int .u32 0] rfl rfl 75 #[.int .u8 0, .int .u32 0, .string ⟨#[]⟩, .int .u32 0] (heap_alloc_new W5 _) (by kernel_rfl) rfl (row4 _ _ _ _) ?_; change wpList _ _ _ _ _ ((W5.alloc (.cells #[.int .u8 0, .int .u32 0, .string ⟨#[]⟩, .int .u32 0] 75)).setRow W5.heap.size #[.int .u8 k, .int .u32 I, .string r1, .int .u32 0]); generalize ((W5.alloc (.cells #[.int .u8 0, .int .u32 0, .string ⟨#[]⟩, .int .u32 0] 75)).setRow W5.heap.size #[.int .u8 k, .int .u32 I, .string r1, .int .u32 0]) = W3 at *; have c0 : W3.cell? ⟨W5.heap.size, 0, none⟩ = some (.int .u8 k) := (cell_of_row W3 W5.heap.size 0 #[.int .u8 k, .int .u32 I, .string r1, .int .u32 0] 75 (0, 0) N1.out.2.1).trans rfl; have f0 : W3.frozen? ⟨W5.heap.size, 0, none⟩ = false := frozen_of_row W3 W5.heap.size 0 #[.int .u8 k, .int .u32 I, .string r1, .int .u32 0] 75 N1.out.2.1; have c1 : W3.cell? ⟨W5.heap.size, 1, none⟩ = some (.int .u32 I) := (cell_of_row W3 W5.heap.size 1 #[.int .u8 k, .int .u32 I, .string r1, .int .u32 0] 75 (0, 0) N1.out.2.1).trans rfl; have f1 : W3.frozen? ⟨W5.heap.size, 1, none⟩ = false := frozen_of_row W3 W5.heap.size 1 #[.int .u8 k, .int .u32 I, .string r1, .int .u32 0] 75 N1.out.2.1; have c2 : W3.cell? ⟨W5.heap.size, 2, none⟩ = some (.string r1) := (cell_of_row W3 W5.heap.size 2 #[.int .u8 k, .int .u32 I, .string r1, .int .u32 0] 75 (0, 0) N1.out.2.1).trans rfl; have f2 : W3.frozen? ⟨W5.heap.size, 2, none⟩ = false := frozen_of_row W3 W5.heap.size 2 #[.int .u8 k, .int .u32 I, .string r1, .int .u32 0] 75 N1.out.2.1; have c3 : W3.cell? ⟨W5.heap.size, 3, none⟩ = some (.int .u32 0) := (cell_of_row W3 W5.heap.size 3 #[.int .u8 k, .int .u32 I, .string r1, .int .u32 0] 75 (0, 0) N1.out.2.1).trans rfl; have f3 : W3.frozen? ⟨W5.heap.size, 3, none⟩ = false := frozen_of_row W3 W5.heap.size 3 #[.int .u8 k, .int .u32 I, .string r1, .int .u32 0] 75 N1.out.2.1)
                refine (C2.out _).mono ?_
                rintro e w6 ⟨rfl, hb⟩
                rw [HX0.out]
                have A6 := Lib.hid ((Hid.out HA2).go (N1.out.2.2.1.trans (hb.mono N1.out.2.2.1.size)) i (Hid.out HA2).1)
                have Rn := Lib.hid (row_bel N1.out.2.1 hb N1.out.2.2.2)
                have hlt6 : W5.heap.size < w6.heap.size := Nat.lt_of_lt_of_le N1.out.2.2.2 hb.size
                clear hb c0 c1 c2 c3 f0 f1 f2 f3 N1
                have d0 : w6.cell? ⟨W5.heap.size, 0, none⟩ = some (.int .u8 k) := (cell_of_row w6 W5.heap.size 0 #[.int .u8 k, .int .u32 I, .string r1, .int .u32 0] 75 (0, 0) Rn.out).trans rfl
                have e0 : w6.frozen? ⟨W5.heap.size, 0, none⟩ = false := frozen_of_row w6 W5.heap.size 0 #[.int .u8 k, .int .u32 I, .string r1, .int .u32 0] 75 Rn.out
                have d1 : w6.cell? ⟨W5.heap.size, 1, none⟩ = some (.int .u32 I) := (cell_of_row w6 W5.heap.size 1 #[.int .u8 k, .int .u32 I, .string r1, .int .u32 0] 75 (0, 0) Rn.out).trans rfl
                have e1 : w6.frozen? ⟨W5.heap.size, 1, none⟩ = false := frozen_of_row w6 W5.heap.size 1 #[.int .u8 k, .int .u32 I, .string r1, .int .u32 0] 75 Rn.out
                have d2 : w6.cell? ⟨W5.heap.size, 2, none⟩ = some (.string r1) := (cell_of_row w6 W5.heap.size 2 #[.int .u8 k, .int .u32 I, .string r1, .int .u32 0] 75 (0, 0) Rn.out).trans rfl
                have e2 : w6.frozen? ⟨W5.heap.size, 2, none⟩ = false := frozen_of_row w6 W5.heap.size 2 #[.int .u8 k, .int .u32 I, .string r1, .int .u32 0] 75 Rn.out
                have d3 : w6.cell? ⟨W5.heap.size, 3, none⟩ = some (.int .u32 0) := (cell_of_row w6 W5.heap.size 3 #[.int .u8 k, .int .u32 I, .string r1, .int .u32 0] 75 (0, 0) Rn.out).trans rfl
                have e3 : w6.frozen? ⟨W5.heap.size, 3, none⟩ = false := frozen_of_row w6 W5.heap.size 3 #[.int .u8 k, .int .u32 I, .string r1, .int .u32 0] 75 Rn.out
                have u2 := U2.out
                have B6 := Lib.hid (((Below.refl W5.heap.size w6).setCell (p := ⟨W5.heap.size, 2, none⟩) (Nat.le_refl _) (.string ⟨#[]⟩)).setCell (p := ⟨W5.heap.size, 3, none⟩) (Nat.le_refl _) (.int .u32 C))
                have A7 := Lib.hid (show AtK s w.heap.size g1 w ((w6.setCell ⟨W5.heap.size, 2, none⟩ (.string ⟨#[]⟩)).setCell ⟨W5.heap.size, 3, none⟩ (.int .u32 C)) i from ⟨A6.out.1, (B6.out.block _ (Hid.out HA2).2.2.2.1).trans A6.out.2.1, (B6.out.block _ (Hid.out HA2).2.2.2.2.1).trans A6.out.2.2.1, Nat.lt_of_lt_of_le A6.out.2.2.2.1 (by simp), Nat.lt_of_lt_of_le A6.out.2.2.2.2.1 (by simp), (A6.out.2.2.2.2.2.setCell (Nat.le_of_lt (Hid.out HA2).2.2.2.1) _).setCell (Nat.le_of_lt (Hid.out HA2).2.2.2.1) _⟩)
                have hs7 : W5.heap.size < ((w6.setCell ⟨W5.heap.size, 2, none⟩ (.string ⟨#[]⟩)).setCell ⟨W5.heap.size, 3, none⟩ (.int .u32 C)).heap.size := by simpa using hlt6
                cases hq : okK ⟨k, I, ByteArray.empty, C⟩
                · have hno : ¬ rkB s := by rw [HBC.out, hq]; decide
                  have HNO := Lib.hid hno
                  rw [hq] at CR
                  clear hq hno HBC
                  go_wp2_with fail
                  refine (CR.out _).mono ?_
                  rintro e w8 ⟨rfl, hb⟩
                  have A8 := Lib.hid (A7.out.go hb (i + 1) (.inr (.inr HNO.out)))
                  clear hb d0 d1 d2 d3 e0 e1 e2 e3 A6 A7 B6 hs7
                  go_wp2_with fail
                  refine ⟨⟨i + 1, by omega, by go_num, A8⟩, ?_⟩
                  clear u1 u2
                  simp [intOf]; omega
                · have HF := Lib.hid (deK_of (HBC.out.2 hq))
                  rw [hq] at CR
                  clear hq HBC
                  have q0 : ((w6.setCell ⟨W5.heap.size, 2, none⟩ (.string ⟨#[]⟩)).setCell ⟨W5.heap.size, 3, none⟩ (.int .u32 C)).cell? ⟨W5.heap.size, 0, none⟩ = some (.int .u8 k) := by rw [World.cell?_setCell_other _ _ _ _ (by simp), World.cell?_setCell_other _ _ _ _ (by simp)]; exact d0
                  have q1 : ((w6.setCell ⟨W5.heap.size, 2, none⟩ (.string ⟨#[]⟩)).setCell ⟨W5.heap.size, 3, none⟩ (.int .u32 C)).cell? ⟨W5.heap.size, 1, none⟩ = some (.int .u32 I) := by rw [World.cell?_setCell_other _ _ _ _ (by simp), World.cell?_setCell_other _ _ _ _ (by simp)]; exact d1
                  have q2 : ((w6.setCell ⟨W5.heap.size, 2, none⟩ (.string ⟨#[]⟩)).setCell ⟨W5.heap.size, 3, none⟩ (.int .u32 C)).cell? ⟨W5.heap.size, 2, none⟩ = some (.string ⟨#[]⟩) := by rw [World.cell?_setCell_other _ _ _ _ (by simp)]; exact World.cell?_setCell_same _ _ _ d2
                  have q3 : ((w6.setCell ⟨W5.heap.size, 2, none⟩ (.string ⟨#[]⟩)).setCell ⟨W5.heap.size, 3, none⟩ (.int .u32 C)).cell? ⟨W5.heap.size, 3, none⟩ = some (.int .u32 C) := World.cell?_setCell_same _ _ _ (by rw [World.cell?_setCell_other _ _ _ _ (by simp)]; exact d3)
                  go_wp2_with fail
                  refine (CR.out _).mono ?_
                  rintro e w8 ⟨rfl, hb⟩
                  have A8 := Lib.hid (A7.out.go hb i A7.out.1)
                  have p0 := (Below.cell hb (p := ⟨W5.heap.size, 0, none⟩) hs7).trans q0
                  have p1 := (Below.cell hb (p := ⟨W5.heap.size, 1, none⟩) hs7).trans q1
                  have p2 := (Below.cell hb (p := ⟨W5.heap.size, 2, none⟩) hs7).trans q2
                  have p3 := (Below.cell hb (p := ⟨W5.heap.size, 3, none⟩) hs7).trans q3
                  clear hb d0 d1 d2 d3 e0 e1 e2 e3 A6 A7 B6 hs7 q0 q1 q2 q3
                  go_wp2_with (refine wpList_store_row rfl 75 (.tmp 2) (.tmp 61) rfl w.heap.size #[.int .u8 k, .int .u32 I, .string ⟨#[]⟩, .int .u32 C] rfl rfl 75 #[.int .u8 0, .int .u32 0, .string ⟨#[]⟩, .int .u32 0] A8.out.2.1 (by kernel_rfl) rfl (row4 _ _ _ _) ?_)
                  refine bodyPost_ret (v := .tuple #[.agg #[.int .u8 k, .int .u32 I, .string ⟨#[]⟩, .int .u32 C], .int .i64 0]) (results_row2 rfl _ _ w.heap.size 75 #[.int .u8 k, .int .u32 I, .string ⟨#[]⟩, .int .u32 C] (0, 0) _ rfl (fin.out _ A8.out.2.1 _) Tryz.underlying75 rfl (by kernel_rfl) _ rfl) rfl ?_
                  exact ⟨by rw [HF.out.1, HF.out.2, HN1.out]; rfl, below_setRow A8.out.2.2.2.2.2 (Nat.le_refl _) _⟩
              · obtain ⟨y1, y2⟩ := emp_of (decide_eq_false hy)
                have y3 := emp_no hy
                have HF := Lib.hid (deK_no (s := s) (by rw [HBB.out]; rintro ⟨⟨_, h⟩, _⟩; rw [h] at hy; exact hy rfl))
                have HX0 := Lib.hid hx
                clear hx hy HBB
                go_wp2_with (refine wpList_store_row rfl 75 (.tmp 9) (.tmp 39) rfl W5.heap.size #[.int .u8 k, .int .u32 I, .string r1, .int .u32 0] rfl rfl 75 #[.int .u8 0, .int .u32 0, .string ⟨#[]⟩, .int .u32 0] (heap_alloc_new W5 _) (by kernel_rfl) rfl (row4 _ _ _ _) ?_; change wpList _ _ _ _ _ ((W5.alloc (.cells #[.int .u8 0, .int .u32 0, .string ⟨#[]⟩, .int .u32 0] 75)).setRow W5.heap.size #[.int .u8 k, .int .u32 I, .string r1, .int .u32 0]); generalize ((W5.alloc (.cells #[.int .u8 0, .int .u32 0, .string ⟨#[]⟩, .int .u32 0] 75)).setRow W5.heap.size #[.int .u8 k, .int .u32 I, .string r1, .int .u32 0]) = W3 at *; have c0 : W3.cell? ⟨W5.heap.size, 0, none⟩ = some (.int .u8 k) := (cell_of_row W3 W5.heap.size 0 #[.int .u8 k, .int .u32 I, .string r1, .int .u32 0] 75 (0, 0) N1.out.2.1).trans rfl; have f0 : W3.frozen? ⟨W5.heap.size, 0, none⟩ = false := frozen_of_row W3 W5.heap.size 0 #[.int .u8 k, .int .u32 I, .string r1, .int .u32 0] 75 N1.out.2.1; have c1 : W3.cell? ⟨W5.heap.size, 1, none⟩ = some (.int .u32 I) := (cell_of_row W3 W5.heap.size 1 #[.int .u8 k, .int .u32 I, .string r1, .int .u32 0] 75 (0, 0) N1.out.2.1).trans rfl; have f1 : W3.frozen? ⟨W5.heap.size, 1, none⟩ = false := frozen_of_row W3 W5.heap.size 1 #[.int .u8 k, .int .u32 I, .string r1, .int .u32 0] 75 N1.out.2.1; have c2 : W3.cell? ⟨W5.heap.size, 2, none⟩ = some (.string r1) := (cell_of_row W3 W5.heap.size 2 #[.int .u8 k, .int .u32 I, .string r1, .int .u32 0] 75 (0, 0) N1.out.2.1).trans rfl; have f2 : W3.frozen? ⟨W5.heap.size, 2, none⟩ = false := frozen_of_row W3 W5.heap.size 2 #[.int .u8 k, .int .u32 I, .string r1, .int .u32 0] 75 N1.out.2.1; have c3 : W3.cell? ⟨W5.heap.size, 3, none⟩ = some (.int .u32 0) := (cell_of_row W3 W5.heap.size 3 #[.int .u8 k, .int .u32 I, .string r1, .int .u32 0] 75 (0, 0) N1.out.2.1).trans rfl; have f3 : W3.frozen? ⟨W5.heap.size, 3, none⟩ = false := frozen_of_row W3 W5.heap.size 3 #[.int .u8 k, .int .u32 I, .string r1, .int .u32 0] 75 N1.out.2.1)
                refine (C2.out _).mono ?_
                rintro e w6 ⟨rfl, hb⟩
                rw [HX0.out]
                have A6 := Lib.hid ((Hid.out HA2).go (N1.out.2.2.1.trans (hb.mono N1.out.2.2.1.size)) i (Hid.out HA2).1)
                clear hb c0 c1 c2 c3 f0 f1 f2 f3 N1
                go_wp2_with (refine wpList_store_row rfl 75 (.tmp 2) (.tmp 54) rfl w.heap.size #[.int .u8 0, .int .u32 0, .string ⟨#[]⟩, .int .u32 0] rfl rfl 75 #[.int .u8 0, .int .u32 0, .string ⟨#[]⟩, .int .u32 0] A6.out.2.1 (by kernel_rfl) rfl (row4 _ _ _ _) ?_)
                refine bodyPost_ret (v := .tuple #[.agg #[.int .u8 0, .int .u32 0, .string ⟨#[]⟩, .int .u32 0], .int .i64 4]) (results_row2 rfl _ _ w.heap.size 75 #[.int .u8 0, .int .u32 0, .string ⟨#[]⟩, .int .u32 0] (0, 0) _ rfl (fin.out _ A6.out.2.1 _) Tryz.underlying75 rfl (by kernel_rfl) _ rfl) rfl ?_
                exact ⟨by rw [HF.out.1, HF.out.2]; rfl, below_setRow A6.out.2.2.2.2.2 (Nat.le_refl _) _⟩
            · have x1b : (x1 == 0) = false := by rw [beq_eq_false_iff_ne]; exact hx
              have x1a : (x1 != 0) = true := by rw [bne, x1b]; rfl
              have HF := Lib.hid (deK_no (s := s) (by rw [HBB.out]; rintro ⟨⟨h, _⟩, _⟩; exact hx h))
              clear hx HBB
              go_wp2_with (refine wpList_store_row rfl 75 (.tmp 9) (.tmp 39) rfl W5.heap.size #[.int .u8 k, .int .u32 I, .string r1, .int .u32 0] rfl rfl 75 #[.int .u8 0, .int .u32 0, .string ⟨#[]⟩, .int .u32 0] (heap_alloc_new W5 _) (by kernel_rfl) rfl (row4 _ _ _ _) ?_; change wpList _ _ _ _ _ ((W5.alloc (.cells #[.int .u8 0, .int .u32 0, .string ⟨#[]⟩, .int .u32 0] 75)).setRow W5.heap.size #[.int .u8 k, .int .u32 I, .string r1, .int .u32 0]); generalize ((W5.alloc (.cells #[.int .u8 0, .int .u32 0, .string ⟨#[]⟩, .int .u32 0] 75)).setRow W5.heap.size #[.int .u8 k, .int .u32 I, .string r1, .int .u32 0]) = W3 at *; have c0 : W3.cell? ⟨W5.heap.size, 0, none⟩ = some (.int .u8 k) := (cell_of_row W3 W5.heap.size 0 #[.int .u8 k, .int .u32 I, .string r1, .int .u32 0] 75 (0, 0) N1.out.2.1).trans rfl; have f0 : W3.frozen? ⟨W5.heap.size, 0, none⟩ = false := frozen_of_row W3 W5.heap.size 0 #[.int .u8 k, .int .u32 I, .string r1, .int .u32 0] 75 N1.out.2.1; have c1 : W3.cell? ⟨W5.heap.size, 1, none⟩ = some (.int .u32 I) := (cell_of_row W3 W5.heap.size 1 #[.int .u8 k, .int .u32 I, .string r1, .int .u32 0] 75 (0, 0) N1.out.2.1).trans rfl; have f1 : W3.frozen? ⟨W5.heap.size, 1, none⟩ = false := frozen_of_row W3 W5.heap.size 1 #[.int .u8 k, .int .u32 I, .string r1, .int .u32 0] 75 N1.out.2.1; have c2 : W3.cell? ⟨W5.heap.size, 2, none⟩ = some (.string r1) := (cell_of_row W3 W5.heap.size 2 #[.int .u8 k, .int .u32 I, .string r1, .int .u32 0] 75 (0, 0) N1.out.2.1).trans rfl; have f2 : W3.frozen? ⟨W5.heap.size, 2, none⟩ = false := frozen_of_row W3 W5.heap.size 2 #[.int .u8 k, .int .u32 I, .string r1, .int .u32 0] 75 N1.out.2.1; have c3 : W3.cell? ⟨W5.heap.size, 3, none⟩ = some (.int .u32 0) := (cell_of_row W3 W5.heap.size 3 #[.int .u8 k, .int .u32 I, .string r1, .int .u32 0] 75 (0, 0) N1.out.2.1).trans rfl; have f3 : W3.frozen? ⟨W5.heap.size, 3, none⟩ = false := frozen_of_row W3 W5.heap.size 3 #[.int .u8 k, .int .u32 I, .string r1, .int .u32 0] 75 N1.out.2.1)
              refine (C2.out _).mono ?_
              rintro e w6 ⟨rfl, hb⟩
              have A6 := Lib.hid ((Hid.out HA2).go (N1.out.2.2.1.trans (hb.mono N1.out.2.2.1.size)) i (Hid.out HA2).1)
              clear hb c0 c1 c2 c3 f0 f1 f2 f3 N1
              go_wp2_with (refine wpList_store_row rfl 75 (.tmp 2) (.tmp 54) rfl w.heap.size #[.int .u8 0, .int .u32 0, .string ⟨#[]⟩, .int .u32 0] rfl rfl 75 #[.int .u8 0, .int .u32 0, .string ⟨#[]⟩, .int .u32 0] A6.out.2.1 (by kernel_rfl) rfl (row4 _ _ _ _) ?_)
              refine bodyPost_ret (v := .tuple #[.agg #[.int .u8 0, .int .u32 0, .string ⟨#[]⟩, .int .u32 0], .int .i64 4]) (results_row2 rfl _ _ w.heap.size 75 #[.int .u8 0, .int .u32 0, .string ⟨#[]⟩, .int .u32 0] (0, 0) _ rfl (fin.out _ A6.out.2.1 _) Tryz.underlying75 rfl (by kernel_rfl) _ rfl) rfl ?_
              exact ⟨by rw [HF.out.1, HF.out.2]; rfl, below_setRow A6.out.2.2.2.2.2 (Nat.le_refl _) _⟩
        · have hle : ltB k ≠ s.extract 0 1 := fun h => hm (FL.out.1 h)
          obtain ⟨t1, t2⟩ := ne_str hle
          have HA3 := Lib.hid (show kd s = 0 ∨ (i + 1) + 1 ≤ kd s ∨ ¬ rkB s by rcases (Hid.out HA).1 with h | h | h; exact .inl h; exact .inr (.inl (by omega)); exact .inr (.inr h))
          clear hle hm hk
          go_wp2_with fail
          go_quiet ((go_at_call 41; exact Calls.quiet_of_same ((refLetter_in k _).mono fun e w2 h => ⟨h.1, h.2.symm⟩)))
          have A6 := Lib.hid ((Hid.out HA).go (below_q wr nq) (i + 1) HA3.out)
          go_wp2_with fail
          refine ⟨⟨i + 1, by omega, by go_num, A6⟩, ?_⟩
          simp [intOf]; omega
      · have HF := Lib.hid (deK_no (s := s) (by
          rcases (Hid.out HA).1 with h | h | h
          · rw [HB.out]; exact fun h2 => h2.1 h
          · have := kd_le s; omega
          · exact h))
        go_wp2_with (refine wpList_store_row rfl 75 (.tmp 2) (.tmp 63) rfl w.heap.size #[.int .u8 0, .int .u32 0, .string ⟨#[]⟩, .int .u32 0] rfl rfl 75 #[.int .u8 0, .int .u32 0, .string ⟨#[]⟩, .int .u32 0] (Hid.out HA).2.1 (by kernel_rfl) rfl (row4 _ _ _ _) ?_)
        refine bodyPost_ret (v := .tuple #[.agg #[.int .u8 0, .int .u32 0, .string ⟨#[]⟩, .int .u32 0], .int .i64 4]) (results_row2 rfl _ _ w.heap.size 75 #[.int .u8 0, .int .u32 0, .string ⟨#[]⟩, .int .u32 0] (0, 0) _ rfl (fin.out _ (Hid.out HA).2.1 _) Tryz.underlying75 rfl (by kernel_rfl) _ rfl) rfl ?_
        exact ⟨by rw [HF.out.1, HF.out.2]; rfl, below_setRow (Hid.out HA).2.2.2.2.2 (Nat.le_refl _) _⟩
  · have d5 : decide ((s.size : Int) < 5) = true := by simp; omega
    have HN := Lib.hid (deK_no (s := s) (fun h => h5 h.1))
    go_enter Tryz.func25, Tryz.ntmps25
    go_wp2_with (refine wpList_store_row rfl 75 (.tmp 2) (.tmp 16) rfl w.heap.size #[.int .u8 0, .int .u32 0, .string ⟨#[]⟩, .int .u32 0] rfl rfl 75 #[.int .u8 0, .int .u32 0, .string ⟨#[]⟩, .int .u32 0] R0.out (by kernel_rfl) rfl (row4 _ _ _ _) ?_)
    refine bodyPost_ret (v := .tuple #[.agg #[.int .u8 0, .int .u32 0, .string ⟨#[]⟩, .int .u32 0], .int .i64 4]) (results_row2 rfl _ _ w.heap.size 75 #[.int .u8 0, .int .u32 0, .string ⟨#[]⟩, .int .u32 0] (0, 0) _ rfl (fin.out _ R0.out _) Tryz.underlying75 rfl (by kernel_rfl) _ rfl) rfl ?_
    exact ⟨by rw [HN.out.1, HN.out.2]; rfl, below_setRow B0.out (Nat.le_refl _) _⟩
end Go.Proofs.YtngcogjjcidccaaGreat.Ino
