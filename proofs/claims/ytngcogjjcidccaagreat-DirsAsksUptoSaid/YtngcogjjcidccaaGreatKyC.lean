/- Contracts of package inode: bytes read as a key. -/
import Derived.Test.YtngcogjjcidccaaGreatKyB
namespace Go.Proofs.YtngcogjjcidccaaGreat.Ino
set_option linter.unusedVariables false
set_option linter.unusedSimpArgs false
open Go.ChangeShapes Go.WideShapes Go.ChangeAt Go.RowKit
open Rg
open Pk (be num be_length num_be num_lt bs bs_size nB nE tN tR tE xB_size)
open Ph (has tl tl_len nb contains_any name_any)
theorem row4 (K I C : Int) (N : ByteArray) : (#[.int .u8 K, .int .u32 I, .string N, .int .u32 C] : Array Value).all (·.oneCell') = true := by simp [Value.oneCell']
theorem set_far {w : World} {g : Nat} {o : Obj} (h : w.heap[g]? = some o) {a : Addr} (ha : g ≠ a.block) (v : Value) : (w.setCell a v).heap[g]? = some o := (Below.heap_setCell w a v g ha).trans h
set_option maxRecDepth 100000 in
set_option maxHeartbeats 4000000 in
theorem takenKey_in (s : ByteArray) (hs : s.size ≤ maxLen) (w : World) :
    Calls Tryz.prog 88 #[.string s] w fun e w' => e = .returned (vK (tkK s)) ∧ Below w.heap.size w w' := by
  have hlim := tkK_lim s
  obtain ⟨K, hK⟩ : ∃ K, kd s = K := ⟨_, rfl⟩
  obtain ⟨r0, hr0⟩ : ∃ r, rs s = r := ⟨_, rfl⟩
  obtain ⟨I, hI⟩ : ∃ K, (tN r0 ((4 : Nat) : Int)).toNat = K := ⟨_, rfl⟩
  obtain ⟨r1, hr1⟩ : ∃ r, tR r0 ((4 : Nat) : Int) = r := ⟨_, rfl⟩
  obtain ⟨C, hC⟩ : ∃ K, (tN r1 ((4 : Nat) : Int)).toNat = K := ⟨_, rfl⟩
  obtain ⟨r2, hr2⟩ : ∃ r, tR r1 ((4 : Nat) : Int) = r := ⟨_, rfl⟩
  have hn : tkK s = ⟨K, I, if K = 2 ∨ K = 4 then r1 else ByteArray.empty, if K = 3 then C else 0⟩ := by subst hK hr0 hI hr1 hC hr2; rfl
  have z0 : r0.size ≤ maxLen := by
    rw [← hr0]
    unfold rs
    split
    · exact hs
    · rw [ByteArray.size_extract]; omega
  have z1 : r1.size ≤ maxLen := by rw [← hr1]; exact Nat.le_trans (tR_le _ _) z0
  have hC4 : C < 4294967296 := by have := tN4 r1; rw [← hC]; have h2 : (tN r1 ((4 : Nat) : Int)) = tN r1 4 := rfl; omega
  have CT := Lib.hid (fun g b w h => take_in s g b w h)
  rw [hK, hr0] at CT
  have C1 := Lib.hid (takeNat r0 4 I r1 z0 (by omega) hI hr1)
  have C2 := Lib.hid (takeNat r1 4 C r2 z1 (by omega) hC hr2)
  rw [hn] at hlim ⊢
  obtain ⟨l1, l2, l3⟩ := hlim
  dsimp only at l1 l2 l3
  have U1 := Lib.hid (u32_id l2)
  have U2 := Lib.hid (u32_id hC4)
  clear hn hK hr0 hI hr1 hC hr2 z0 z1 l1 l2 l3 hs hC4
  have R0 := Lib.hid (heap_alloc_new w (.cells #[.int .u8 0, .int .u32 0, .string ⟨#[]⟩, .int .u32 0] 75))
  have B0 := Lib.hid ((Below.refl w.heap.size w).alloc (Nat.le_refl _) (.cells #[.int .u8 0, .int .u32 0, .string ⟨#[]⟩, .int .u32 0] 75))
  have hsz : (w.alloc (.cells #[.int .u8 0, .int .u32 0, .string ⟨#[]⟩, .int .u32 0] 75)).heap.size = w.heap.size + 1 := by simp
  have HZ := Lib.hid hsz
  clear hsz
  obtain ⟨X, hX⟩ : ∃ X, (if K = 2 ∨ K = 4 then r1 else ByteArray.empty) = X := ⟨_, rfl⟩
  obtain ⟨Y, hY⟩ : ∃ Y, (if K = 3 then C else 0) = Y := ⟨_, rfl⟩
  have HX := Lib.hid hX
  have HY := Lib.hid hY
  rw [hX, hY]
  clear hX hY
  unfold vK
  dsimp only
  go_enter Tryz.func88, Tryz.ntmps88
  go_wp2_with fail
  change Calls _ _ _ ((w.alloc (.cells #[.int .u8 0, .int .u32 0, .string ⟨#[]⟩, .int .u32 0] 75)).alloc (.cells #[.int .u32 0, .int .i32 0, .int .u32 0, .string ⟨#[]⟩, .string ⟨#[]⟩, .string ⟨#[]⟩, .string ⟨#[]⟩, .string ⟨#[]⟩] 127)) _
  generalize w.alloc (.cells #[.int .u8 0, .int .u32 0, .string ⟨#[]⟩, .int .u32 0] 75) = W at *
  have HL := Lib.hid (new_letters W)
  rw [HZ.out] at HL
  have B1 := Lib.hid ((Below.refl W.heap.size W).alloc (Nat.le_refl _) (.cells #[.int .u32 0, .int .i32 0, .int .u32 0, .string ⟨#[]⟩, .string ⟨#[]⟩, .string ⟨#[]⟩, .string ⟨#[]⟩, .string ⟨#[]⟩] 127))
  refine (CT.out (w.heap.size + 1) false _ HL.out).mono ?_
  rintro e w1 ⟨rfl, hb⟩
  have hb' : Below W.heap.size W w1 := B1.out.trans (by rw [HZ.out]; exact hb)
  have R1 := Lib.hid (row_bel R0.out hb' (by rw [HZ.out]; omega))
  have B2 := Lib.hid (B0.out.trans (hb'.mono (by rw [HZ.out]; omega)))
  have hsz : w.heap.size < w1.heap.size := by have h1 := hb'.size; have h2 := HZ.out; omega
  clear hb hb' B1 B0 R0 HL HZ CT
  go_wp2_with fail
  refine (C1.out _).mono ?_
  rintro e w2 ⟨rfl, hb⟩
  have R2 := Lib.hid (row_bel R1.out hb hsz)
  have B3 := Lib.hid (B2.out.trans (hb.mono B2.out.size))
  replace hsz := Nat.lt_of_lt_of_le hsz hb.size
  clear hb R1 B2 C1
  have N1 := Lib.hid (new_row2 (old := #[.int .u8 0, .int .u32 0, .string ⟨#[]⟩, .int .u32 0]) (cs := #[.int .u8 K, .int .u32 I, .string ⟨#[]⟩, .int .u32 0]) (t := 75) R2.out)
  have u1 := U1.out
  have fin : Hid (∀ (V : World), V.heap[w.heap.size]? = some (.cells #[.int .u8 0, .int .u32 0, .string ⟨#[]⟩, .int .u32 0] 75 (0, 0)) → ∀ cs, (V.setRow w.heap.size cs).heap[w.heap.size]? = some (.cells cs 75 (0, 0))) := Lib.hid (fun V h cs => setRow_heap' h)
  cases k3 : decide (K = 3)
  · have K3 := eqz3 k3
    have k3' := of_decide_eq_false k3
    cases k24 : decide (K = 2 ∨ K = 4)
    · have k24' := of_decide_eq_false k24
      have K2 := eqz2 (a := K) (q := false) (by rw [decide_eq_false (by omega)])
      have K4 := eqz4 (a := K) (q := false) (by rw [decide_eq_false (by omega)])
      have HX1 := Lib.hid (show X = ByteArray.empty by rw [← HX.out, if_neg k24'])
      have HY1 := Lib.hid (show Y = 0 by rw [← HY.out, if_neg k3'])
      clear k3 k3' k24 k24'
      go_wp2_with (first
        | (refine wpList_store_row rfl 75 (.tmp 7) (.tmp 23) rfl w2.heap.size #[.int .u8 K, .int .u32 I, .string ⟨#[]⟩, .int .u32 0] rfl rfl 75 #[.int .u8 0, .int .u32 0, .string ⟨#[]⟩, .int .u32 0] (heap_alloc_new w2 _) (by kernel_rfl) rfl (row4 _ _ _ _) ?_; change wpList _ _ _ _ _ ((w2.alloc (.cells #[.int .u8 0, .int .u32 0, .string ⟨#[]⟩, .int .u32 0] 75)).setRow w2.heap.size #[.int .u8 K, .int .u32 I, .string ⟨#[]⟩, .int .u32 0]); generalize ((w2.alloc (.cells #[.int .u8 0, .int .u32 0, .string ⟨#[]⟩, .int .u32 0] 75)).setRow w2.heap.size #[.int .u8 K, .int .u32 I, .string ⟨#[]⟩, .int .u32 0]) = W3 at *; have c0 : W3.cell? ⟨w2.heap.size, 0, none⟩ = some (.int .u8 K) := (cell_of_row W3 w2.heap.size 0 #[.int .u8 K, .int .u32 I, .string ⟨#[]⟩, .int .u32 0] 75 (0, 0) N1.out.2.1).trans rfl; have f0 : W3.frozen? ⟨w2.heap.size, 0, none⟩ = false := frozen_of_row W3 w2.heap.size 0 #[.int .u8 K, .int .u32 I, .string ⟨#[]⟩, .int .u32 0] 75 N1.out.2.1; have c1 : W3.cell? ⟨w2.heap.size, 1, none⟩ = some (.int .u32 I) := (cell_of_row W3 w2.heap.size 1 #[.int .u8 K, .int .u32 I, .string ⟨#[]⟩, .int .u32 0] 75 (0, 0) N1.out.2.1).trans rfl; have f1 : W3.frozen? ⟨w2.heap.size, 1, none⟩ = false := frozen_of_row W3 w2.heap.size 1 #[.int .u8 K, .int .u32 I, .string ⟨#[]⟩, .int .u32 0] 75 N1.out.2.1; have c2 : W3.cell? ⟨w2.heap.size, 2, none⟩ = some (.string ⟨#[]⟩) := (cell_of_row W3 w2.heap.size 2 #[.int .u8 K, .int .u32 I, .string ⟨#[]⟩, .int .u32 0] 75 (0, 0) N1.out.2.1).trans rfl; have f2 : W3.frozen? ⟨w2.heap.size, 2, none⟩ = false := frozen_of_row W3 w2.heap.size 2 #[.int .u8 K, .int .u32 I, .string ⟨#[]⟩, .int .u32 0] 75 N1.out.2.1; have c3 : W3.cell? ⟨w2.heap.size, 3, none⟩ = some (.int .u32 0) := (cell_of_row W3 w2.heap.size 3 #[.int .u8 K, .int .u32 I, .string ⟨#[]⟩, .int .u32 0] 75 (0, 0) N1.out.2.1).trans rfl; have f3 : W3.frozen? ⟨w2.heap.size, 3, none⟩ = false := frozen_of_row W3 w2.heap.size 3 #[.int .u8 K, .int .u32 I, .string ⟨#[]⟩, .int .u32 0] 75 N1.out.2.1)
        | (refine wpList_load_row rfl 75 (.tmp 7) rfl w2.heap.size rfl 75 #[.int .u8 K, .int .u32 I, .string ⟨#[]⟩, .int .u32 0] (0, 0) _ N1.out.2.1 Tryz.underlying75 rfl (by kernel_rfl) ?_)
        | (refine wpList_store_row rfl 75 (.tmp 2) (.tmp 40) rfl w.heap.size #[.int .u8 K, .int .u32 I, .string ⟨#[]⟩, .int .u32 0] rfl rfl 75 #[.int .u8 0, .int .u32 0, .string ⟨#[]⟩, .int .u32 0] N1.out.1 (by kernel_rfl) rfl (row4 _ _ _ _) ?_))
      refine bodyPost_ret (v := .agg #[.int .u8 K, .int .u32 I, .string ⟨#[]⟩, .int .u32 0]) (results_cell_row rfl _ _ w.heap.size 75 #[.int .u8 K, .int .u32 I, .string ⟨#[]⟩, .int .u32 0] (0, 0) _ rfl (fin.out _ N1.out.1 _) Tryz.underlying75 rfl (by kernel_rfl)) rfl ?_
      exact ⟨by rw [HX1.out, HY1.out]; rfl, below_setRow (B3.out.trans (N1.out.2.2.1.mono B3.out.size)) (Nat.le_refl _) _⟩
    · have k24' := of_decide_eq_true k24
      have HX1 := Lib.hid (show X = r1 by rw [← HX.out, if_pos k24'])
      have HY1 := Lib.hid (show Y = 0 by rw [← HY.out, if_neg k3'])
      have KQ : (((K : Int) == 2) = true) ∨ (((K : Int) == 2) = false ∧ ((K : Int) == 4) = true) := by
        rcases k24' with h | h
        · exact .inl (eqz2 (decide_eq_true h))
        · exact .inr ⟨eqz2 (decide_eq_false (by omega)), eqz4 (decide_eq_true h)⟩
      clear k3 k3' k24 k24'
      have hne : w.heap.size ≠ w2.heap.size := Nat.ne_of_lt hsz
      rcases KQ with K2 | ⟨K2, K4⟩
      all_goals
        go_wp2_with (first
          | (refine wpList_store_row rfl 75 (.tmp 7) (.tmp 23) rfl w2.heap.size #[.int .u8 K, .int .u32 I, .string ⟨#[]⟩, .int .u32 0] rfl rfl 75 #[.int .u8 0, .int .u32 0, .string ⟨#[]⟩, .int .u32 0] (heap_alloc_new w2 _) (by kernel_rfl) rfl (row4 _ _ _ _) ?_; change wpList _ _ _ _ _ ((w2.alloc (.cells #[.int .u8 0, .int .u32 0, .string ⟨#[]⟩, .int .u32 0] 75)).setRow w2.heap.size #[.int .u8 K, .int .u32 I, .string ⟨#[]⟩, .int .u32 0]); generalize ((w2.alloc (.cells #[.int .u8 0, .int .u32 0, .string ⟨#[]⟩, .int .u32 0] 75)).setRow w2.heap.size #[.int .u8 K, .int .u32 I, .string ⟨#[]⟩, .int .u32 0]) = W3 at *; have c0 : W3.cell? ⟨w2.heap.size, 0, none⟩ = some (.int .u8 K) := (cell_of_row W3 w2.heap.size 0 #[.int .u8 K, .int .u32 I, .string ⟨#[]⟩, .int .u32 0] 75 (0, 0) N1.out.2.1).trans rfl; have f0 : W3.frozen? ⟨w2.heap.size, 0, none⟩ = false := frozen_of_row W3 w2.heap.size 0 #[.int .u8 K, .int .u32 I, .string ⟨#[]⟩, .int .u32 0] 75 N1.out.2.1; have c1 : W3.cell? ⟨w2.heap.size, 1, none⟩ = some (.int .u32 I) := (cell_of_row W3 w2.heap.size 1 #[.int .u8 K, .int .u32 I, .string ⟨#[]⟩, .int .u32 0] 75 (0, 0) N1.out.2.1).trans rfl; have f1 : W3.frozen? ⟨w2.heap.size, 1, none⟩ = false := frozen_of_row W3 w2.heap.size 1 #[.int .u8 K, .int .u32 I, .string ⟨#[]⟩, .int .u32 0] 75 N1.out.2.1; have c2 : W3.cell? ⟨w2.heap.size, 2, none⟩ = some (.string ⟨#[]⟩) := (cell_of_row W3 w2.heap.size 2 #[.int .u8 K, .int .u32 I, .string ⟨#[]⟩, .int .u32 0] 75 (0, 0) N1.out.2.1).trans rfl; have f2 : W3.frozen? ⟨w2.heap.size, 2, none⟩ = false := frozen_of_row W3 w2.heap.size 2 #[.int .u8 K, .int .u32 I, .string ⟨#[]⟩, .int .u32 0] 75 N1.out.2.1; have c3 : W3.cell? ⟨w2.heap.size, 3, none⟩ = some (.int .u32 0) := (cell_of_row W3 w2.heap.size 3 #[.int .u8 K, .int .u32 I, .string ⟨#[]⟩, .int .u32 0] 75 (0, 0) N1.out.2.1).trans rfl; have f3 : W3.frozen? ⟨w2.heap.size, 3, none⟩ = false := frozen_of_row W3 w2.heap.size 3 #[.int .u8 K, .int .u32 I, .string ⟨#[]⟩, .int .u32 0] 75 N1.out.2.1)
          | (refine wpList_store_row rfl 75 (.tmp 2) (.tmp 40) rfl w.heap.size #[.int .u8 K, .int .u32 I, .string r1, .int .u32 0] rfl rfl 75 #[.int .u8 0, .int .u32 0, .string ⟨#[]⟩, .int .u32 0] (set_far N1.out.1 (a := ⟨w2.heap.size, 2, none⟩) hne _) (by kernel_rfl) rfl (row4 _ _ _ _) ?_))
        refine bodyPost_ret (v := .agg #[.int .u8 K, .int .u32 I, .string r1, .int .u32 0]) (results_cell_row rfl _ _ w.heap.size 75 #[.int .u8 K, .int .u32 I, .string r1, .int .u32 0] (0, 0) _ rfl (fin.out _ (set_far N1.out.1 (a := ⟨w2.heap.size, 2, none⟩) hne _) _) Tryz.underlying75 rfl (by kernel_rfl)) rfl ?_
        exact ⟨by rw [HX1.out, HY1.out]; rfl, below_setRow ((B3.out.trans (N1.out.2.2.1.mono B3.out.size)).setCell (Nat.le_of_lt hsz) _) (Nat.le_refl _) _⟩
  · have K3 := eqz3 k3
    have k3' := of_decide_eq_true k3
    have K2 := eqz2 (a := K) (q := false) (by rw [decide_eq_false (by omega)])
    have K4 := eqz4 (a := K) (q := false) (by rw [decide_eq_false (by omega)])
    have HX1 := Lib.hid (show X = ByteArray.empty by rw [← HX.out, if_neg (by omega)])
    have HY1 := Lib.hid (show Y = C by rw [← HY.out, if_pos k3'])
    have hne : w.heap.size ≠ w2.heap.size := Nat.ne_of_lt hsz
    clear k3 k3'
    go_wp2_with (refine wpList_store_row rfl 75 (.tmp 7) (.tmp 23) rfl w2.heap.size #[.int .u8 K, .int .u32 I, .string ⟨#[]⟩, .int .u32 0] rfl rfl 75 #[.int .u8 0, .int .u32 0, .string ⟨#[]⟩, .int .u32 0] (heap_alloc_new w2 _) (by kernel_rfl) rfl (row4 _ _ _ _) ?_; change wpList _ _ _ _ _ ((w2.alloc (.cells #[.int .u8 0, .int .u32 0, .string ⟨#[]⟩, .int .u32 0] 75)).setRow w2.heap.size #[.int .u8 K, .int .u32 I, .string ⟨#[]⟩, .int .u32 0]); generalize ((w2.alloc (.cells #[.int .u8 0, .int .u32 0, .string ⟨#[]⟩, .int .u32 0] 75)).setRow w2.heap.size #[.int .u8 K, .int .u32 I, .string ⟨#[]⟩, .int .u32 0]) = W3 at *; have c0 : W3.cell? ⟨w2.heap.size, 0, none⟩ = some (.int .u8 K) := (cell_of_row W3 w2.heap.size 0 #[.int .u8 K, .int .u32 I, .string ⟨#[]⟩, .int .u32 0] 75 (0, 0) N1.out.2.1).trans rfl; have f0 : W3.frozen? ⟨w2.heap.size, 0, none⟩ = false := frozen_of_row W3 w2.heap.size 0 #[.int .u8 K, .int .u32 I, .string ⟨#[]⟩, .int .u32 0] 75 N1.out.2.1; have c1 : W3.cell? ⟨w2.heap.size, 1, none⟩ = some (.int .u32 I) := (cell_of_row W3 w2.heap.size 1 #[.int .u8 K, .int .u32 I, .string ⟨#[]⟩, .int .u32 0] 75 (0, 0) N1.out.2.1).trans rfl; have f1 : W3.frozen? ⟨w2.heap.size, 1, none⟩ = false := frozen_of_row W3 w2.heap.size 1 #[.int .u8 K, .int .u32 I, .string ⟨#[]⟩, .int .u32 0] 75 N1.out.2.1; have c2 : W3.cell? ⟨w2.heap.size, 2, none⟩ = some (.string ⟨#[]⟩) := (cell_of_row W3 w2.heap.size 2 #[.int .u8 K, .int .u32 I, .string ⟨#[]⟩, .int .u32 0] 75 (0, 0) N1.out.2.1).trans rfl; have f2 : W3.frozen? ⟨w2.heap.size, 2, none⟩ = false := frozen_of_row W3 w2.heap.size 2 #[.int .u8 K, .int .u32 I, .string ⟨#[]⟩, .int .u32 0] 75 N1.out.2.1; have c3 : W3.cell? ⟨w2.heap.size, 3, none⟩ = some (.int .u32 0) := (cell_of_row W3 w2.heap.size 3 #[.int .u8 K, .int .u32 I, .string ⟨#[]⟩, .int .u32 0] 75 (0, 0) N1.out.2.1).trans rfl; have f3 : W3.frozen? ⟨w2.heap.size, 3, none⟩ = false := frozen_of_row W3 w2.heap.size 3 #[.int .u8 K, .int .u32 I, .string ⟨#[]⟩, .int .u32 0] 75 N1.out.2.1)
    refine (C2.out _).mono ?_
    rintro e w4 ⟨rfl, hb⟩
    have R4 := Lib.hid (row_bel N1.out.1 hb (by have h1 := N1.out.2.2.2; omega))
    have Rn := Lib.hid (row_bel N1.out.2.1 hb N1.out.2.2.2)
    have B4 := Lib.hid (B3.out.trans ((N1.out.2.2.1.trans (hb.mono N1.out.2.2.1.size)).mono B3.out.size))
    have d0 : w4.cell? ⟨w2.heap.size, 0, none⟩ = some (.int .u8 K) := (cell_of_row w4 w2.heap.size 0 #[.int .u8 K, .int .u32 I, .string ⟨#[]⟩, .int .u32 0] 75 (0, 0) Rn.out).trans rfl
    have g0 : w4.frozen? ⟨w2.heap.size, 0, none⟩ = false := frozen_of_row w4 w2.heap.size 0 #[.int .u8 K, .int .u32 I, .string ⟨#[]⟩, .int .u32 0] 75 Rn.out
    have d1 : w4.cell? ⟨w2.heap.size, 1, none⟩ = some (.int .u32 I) := (cell_of_row w4 w2.heap.size 1 #[.int .u8 K, .int .u32 I, .string ⟨#[]⟩, .int .u32 0] 75 (0, 0) Rn.out).trans rfl
    have g1 : w4.frozen? ⟨w2.heap.size, 1, none⟩ = false := frozen_of_row w4 w2.heap.size 1 #[.int .u8 K, .int .u32 I, .string ⟨#[]⟩, .int .u32 0] 75 Rn.out
    have d2 : w4.cell? ⟨w2.heap.size, 2, none⟩ = some (.string ⟨#[]⟩) := (cell_of_row w4 w2.heap.size 2 #[.int .u8 K, .int .u32 I, .string ⟨#[]⟩, .int .u32 0] 75 (0, 0) Rn.out).trans rfl
    have g2 : w4.frozen? ⟨w2.heap.size, 2, none⟩ = false := frozen_of_row w4 w2.heap.size 2 #[.int .u8 K, .int .u32 I, .string ⟨#[]⟩, .int .u32 0] 75 Rn.out
    have d3 : w4.cell? ⟨w2.heap.size, 3, none⟩ = some (.int .u32 0) := (cell_of_row w4 w2.heap.size 3 #[.int .u8 K, .int .u32 I, .string ⟨#[]⟩, .int .u32 0] 75 (0, 0) Rn.out).trans rfl
    have g3 : w4.frozen? ⟨w2.heap.size, 3, none⟩ = false := frozen_of_row w4 w2.heap.size 3 #[.int .u8 K, .int .u32 I, .string ⟨#[]⟩, .int .u32 0] 75 Rn.out
    clear hb c0 c1 c2 c3 f0 f1 f2 f3 N1 B3 C2
    have u2 := U2.out
    go_wp2_with (refine wpList_store_row rfl 75 (.tmp 2) (.tmp 40) rfl w.heap.size #[.int .u8 K, .int .u32 I, .string ⟨#[]⟩, .int .u32 C] rfl rfl 75 #[.int .u8 0, .int .u32 0, .string ⟨#[]⟩, .int .u32 0] (set_far R4.out (a := ⟨w2.heap.size, 3, none⟩) hne _) (by kernel_rfl) rfl (row4 _ _ _ _) ?_)
    refine bodyPost_ret (v := .agg #[.int .u8 K, .int .u32 I, .string ⟨#[]⟩, .int .u32 C]) (results_cell_row rfl _ _ w.heap.size 75 #[.int .u8 K, .int .u32 I, .string ⟨#[]⟩, .int .u32 C] (0, 0) _ rfl (fin.out _ (set_far R4.out (a := ⟨w2.heap.size, 3, none⟩) hne _) _) Tryz.underlying75 rfl (by kernel_rfl)) rfl ?_
    exact ⟨by rw [HX1.out, HY1.out]; rfl, below_setRow (B4.out.setCell (Nat.le_of_lt hsz) _) (Nat.le_refl _) _⟩
set_option maxRecDepth 100000 in
set_option maxHeartbeats 2000000 in
theorem parse_in (s : ByteArray) (hs : s.size ≤ maxLen) (w : World) :
    Calls Tryz.prog 74 #[.string s] w fun e w' => e = .returned (.tuple #[vK (deK s), .int .i64 (deKE s)]) ∧ Below w.heap.size w w' := by
  have CT := Lib.hid (takenKey_in s hs)
  have hlim := tkK_lim s
  have HI : Hid (deK s = if okK (tkK s) = true ∧ wrK (tkK s) = s then tkK s else zKy) := Lib.hid rfl
  have HX : Hid (deKE s = if okK (tkK s) = true ∧ wrK (tkK s) = s then 0 else 4) := Lib.hid rfl
  generalize tkK s = n at *
  have CE := Lib.hid (key_in n hlim)
  have HE := Lib.hid (@chK_yes n)
  have HF := Lib.hid (@chK_no n)
  obtain ⟨K, I, N, C⟩ := n
  unfold vK at CT CE
  dsimp only at CT CE
  have R0 := Lib.hid (heap_alloc_new w (.cells #[.int .u8 0, .int .u32 0, .string ⟨#[]⟩, .int .u32 0] 75))
  have B0 := Lib.hid ((Below.refl w.heap.size w).alloc (Nat.le_refl _) (.cells #[.int .u8 0, .int .u32 0, .string ⟨#[]⟩, .int .u32 0] 75))
  have hsz : w.heap.size < (w.alloc (.cells #[.int .u8 0, .int .u32 0, .string ⟨#[]⟩, .int .u32 0] 75)).heap.size := by simp
  clear hs
  go_enter Tryz.func74, Tryz.ntmps74
  go_wp2_with fail
  change Calls _ _ _ (w.alloc (.cells #[.int .u8 0, .int .u32 0, .string ⟨#[]⟩, .int .u32 0] 75)) _
  generalize w.alloc (.cells #[.int .u8 0, .int .u32 0, .string ⟨#[]⟩, .int .u32 0] 75) = W at *
  refine (CT.out _).mono ?_
  rintro e w1 ⟨rfl, hb⟩
  have R1 := Lib.hid (row_bel R0.out hb hsz)
  have B1 := Lib.hid (B0.out.trans (hb.mono B0.out.size))
  have N1 := Lib.hid (new_row (old := #[.int .u8 0, .int .u32 0, .string ⟨#[]⟩, .int .u32 0]) (cs := #[.int .u8 K, .int .u32 I, .string N, .int .u32 C]) (t := 75) R1.out rfl)
  clear hb R0 B0 CT
  go_wp2_with (first
    | (refine wpList_store_row rfl 75 (.tmp 4) (.tmp 8) rfl w1.heap.size #[.int .u8 K, .int .u32 I, .string N, .int .u32 C] rfl rfl 75 #[.int .u8 0, .int .u32 0, .string ⟨#[]⟩, .int .u32 0] (heap_alloc_new w1 _) (by kernel_rfl) rfl (row4 _ _ _ _) ?_; change wpList _ _ _ _ _ ((w1.alloc (.cells #[.int .u8 0, .int .u32 0, .string ⟨#[]⟩, .int .u32 0] 75)).setRow w1.heap.size #[.int .u8 K, .int .u32 I, .string N, .int .u32 C]); generalize ((w1.alloc (.cells #[.int .u8 0, .int .u32 0, .string ⟨#[]⟩, .int .u32 0] 75)).setRow w1.heap.size #[.int .u8 K, .int .u32 I, .string N, .int .u32 C]) = W2 at *)
    | (refine wpList_load_row rfl 75 (.tmp 4) rfl w1.heap.size rfl 75 #[.int .u8 K, .int .u32 I, .string N, .int .u32 C] (0, 0) _ N1.out.2.1 Tryz.underlying75 rfl (by kernel_rfl) ?_))
  refine (CE.out _).mono ?_
  rintro e w3 ⟨rfl, hb⟩
  have hlt2 : w1.heap.size < W2.heap.size := by
    rcases Nat.lt_or_ge w1.heap.size W2.heap.size with h' | h'
    · exact h'
    · have := N1.out.2.1; rw [Array.getElem?_eq_none h'] at this; cases this
  have Rg := Lib.hid (row_bel N1.out.1 hb (by have := B1.out.size; omega))
  have Rn := Lib.hid (row_bel N1.out.2.1 hb hlt2)
  have B3 := Lib.hid (B1.out.trans ((N1.out.2.2.trans (hb.mono N1.out.2.2.size)).mono B1.out.size))
  clear hb N1 CE R1 B1 hlt2 hsz
  have hz := setRow_heap' (cs := #[.int .u8 0, .int .u32 0, .string ⟨#[]⟩, .int .u32 0]) Rg.out
  have hr := setRow_heap' (cs := #[.int .u8 K, .int .u32 I, .string N, .int .u32 C]) Rg.out
  have HZ := Lib.hid hz
  have HR := Lib.hid hr
  clear hz hr
  cases hq : okK ⟨K, I, N, C⟩
  · obtain ⟨e1, e2⟩ := HF.out hq
    have H1 := Lib.hid (show deK s = zKy by rw [HI.out, if_neg (by rw [hq]; rintro ⟨h, _⟩; cases h)])
    have H2 := Lib.hid (show deKE s = 4 by rw [HX.out, if_neg (by rw [hq]; rintro ⟨h, _⟩; cases h)])
    rw [e1]
    clear hq e1 e2 HE HF HI HX
    go_wp2_with (refine wpList_store_row rfl 75 (.tmp 2) (.tmp 21) rfl w.heap.size #[.int .u8 0, .int .u32 0, .string ⟨#[]⟩, .int .u32 0] rfl rfl 75 #[.int .u8 0, .int .u32 0, .string ⟨#[]⟩, .int .u32 0] Rg.out (by kernel_rfl) rfl (row4 _ _ _ _) ?_)
    refine bodyPost_ret (v := .tuple #[.agg #[.int .u8 0, .int .u32 0, .string ⟨#[]⟩, .int .u32 0], .int .i64 4]) (results_row2 rfl _ _ w.heap.size 75 #[.int .u8 0, .int .u32 0, .string ⟨#[]⟩, .int .u32 0] (0, 0) _ rfl HZ.out Tryz.underlying75 rfl (by kernel_rfl) _ rfl) rfl ?_
    exact ⟨by rw [H1.out, H2.out]; rfl, below_setRow B3.out (Nat.le_refl _) _⟩
  · obtain ⟨e1, e2⟩ := HE.out hq
    by_cases hw : wrK ⟨K, I, N, C⟩ = s
    · obtain ⟨s1, s2⟩ := eq_str s
      have H1 := Lib.hid (show deK s = ⟨K, I, N, C⟩ by rw [HI.out, if_pos ⟨hq, hw⟩])
      have H2 := Lib.hid (show deKE s = 0 by rw [HX.out, if_pos ⟨hq, hw⟩])
      rw [e1, e2, hw]
      clear hq hw e1 e2 HE HF HI HX
      go_wp2_with (first
        | (refine wpList_load_row rfl 75 (.tmp 4) rfl w1.heap.size rfl 75 #[.int .u8 K, .int .u32 I, .string N, .int .u32 C] (0, 0) _ Rn.out Tryz.underlying75 rfl (by kernel_rfl) ?_)
        | (refine wpList_store_row rfl 75 (.tmp 2) (.tmp 22) rfl w.heap.size #[.int .u8 K, .int .u32 I, .string N, .int .u32 C] rfl rfl 75 #[.int .u8 0, .int .u32 0, .string ⟨#[]⟩, .int .u32 0] Rg.out (by kernel_rfl) rfl (row4 _ _ _ _) ?_))
      refine bodyPost_ret (v := .tuple #[.agg #[.int .u8 K, .int .u32 I, .string N, .int .u32 C], .int .i64 0]) (results_row2 rfl _ _ w.heap.size 75 #[.int .u8 K, .int .u32 I, .string N, .int .u32 C] (0, 0) _ rfl HR.out Tryz.underlying75 rfl (by kernel_rfl) _ rfl) rfl ?_
      exact ⟨by rw [H1.out, H2.out]; rfl, below_setRow B3.out (Nat.le_refl _) _⟩
    · obtain ⟨s1, s2⟩ := ne_str hw
      have H1 := Lib.hid (show deK s = zKy by rw [HI.out, if_neg (fun h => hw h.2)])
      have H2 := Lib.hid (show deKE s = 4 by rw [HX.out, if_neg (fun h => hw h.2)])
      rw [e1, e2]
      clear hq hw e1 e2 HE HF HI HX
      go_wp2_with (refine wpList_store_row rfl 75 (.tmp 2) (.tmp 21) rfl w.heap.size #[.int .u8 0, .int .u32 0, .string ⟨#[]⟩, .int .u32 0] rfl rfl 75 #[.int .u8 0, .int .u32 0, .string ⟨#[]⟩, .int .u32 0] Rg.out (by kernel_rfl) rfl (row4 _ _ _ _) ?_)
      refine bodyPost_ret (v := .tuple #[.agg #[.int .u8 0, .int .u32 0, .string ⟨#[]⟩, .int .u32 0], .int .i64 4]) (results_row2 rfl _ _ w.heap.size 75 #[.int .u8 0, .int .u32 0, .string ⟨#[]⟩, .int .u32 0] (0, 0) _ rfl HZ.out Tryz.underlying75 rfl (by kernel_rfl) _ rfl) rfl ?_
      exact ⟨by rw [H1.out, H2.out]; rfl, below_setRow B3.out (Nat.le_refl _) _⟩
end Go.Proofs.YtngcogjjcidccaaGreat.Ino
