/- Contracts of package inode: an inode's bytes, there and back. -/
import Derived.Test.YtngcogjjcidccaaGreatInA
import Derived.Test.YtngcogjjcidccaaGreatRgG
namespace Go.Proofs.YtngcogjjcidccaaGreat.Ino
set_option linter.unusedVariables false
set_option linter.unusedSimpArgs false
open Go.ChangeShapes Go.WideShapes Go.ChangeAt Go.RowKit
open Rg
open Pk (be num be_length num_be num_lt bs bs_size nB nE tN tR tE uN uOk uT uR uE xB xE number_any take_any text_any taketext_any xB_size)
open Ph (has contains_any tl tl_len nb)
theorem box_cell (w : World) (cs : Array Value) (t : TypeId) (i : Nat) {v : Value} (hv : cs[i]? = some v) : (w.alloc (.cells cs t)).cell? ⟨w.heap.size, i, none⟩ = some v :=
  (cell_of_row (w.alloc (.cells cs t)) w.heap.size i cs t (0, 0) (heap_alloc_new w _)).trans hv
theorem u64_id {n : Nat} (h : n < 18446744073709551616) : IntKind.u64.wrap (n : Int) = n := by rw [IntKind.wrap_u64]; omega
set_option maxRecDepth 100000 in
set_option maxHeartbeats 2000000 in
theorem written_in (n : In) (hl : n.lim) (ht : n.T.size ≤ 65535) (w : World) :
    Calls Tryz.prog 47 #[vI n] w fun e w' => e = .returned (.string (wrI n)) ∧ Below w.heap.size w w' := by
  obtain ⟨K, M, L, S, T⟩ := n
  obtain ⟨l1, l2, l3, l4⟩ := hl
  dsimp only at l1 l2 l3 l4 ht
  have HX := Lib.hid (xB_size ht)
  unfold vI wrI
  dsimp only
  have C0 := box_cell w #[.int .u8 K, .int .u16 M, .int .u32 L, .int .u32 S, .string T] 31 0 rfl
  have C1 := box_cell w #[.int .u8 K, .int .u16 M, .int .u32 L, .int .u32 S, .string T] 31 1 rfl
  have C2 := box_cell w #[.int .u8 K, .int .u16 M, .int .u32 L, .int .u32 S, .string T] 31 2 rfl
  have C3 := box_cell w #[.int .u8 K, .int .u16 M, .int .u32 L, .int .u32 S, .string T] 31 3 rfl
  have C4 := box_cell w #[.int .u8 K, .int .u16 M, .int .u32 L, .int .u32 S, .string T] 31 4 rfl
  have B0 := Lib.hid ((Below.refl w.heap.size w).alloc (Nat.le_refl _) (.cells #[.int .u8 K, .int .u16 M, .int .u32 L, .int .u32 S, .string T] 31))
  have hsz : (w.alloc (.cells #[.int .u8 K, .int .u16 M, .int .u32 L, .int .u32 S, .string T] 31)).heap.size = w.heap.size + 1 := by simp
  have HZ := Lib.hid hsz
  clear hsz
  go_enter Tryz.func47, Tryz.ntmps47
  go_wp2_with fail
  change Calls _ _ _ (w.alloc (.cells #[.int .u8 K, .int .u16 M, .int .u32 L, .int .u32 S, .string T] 31)) _
  generalize hb0 : w.heap.size = b0 at *
  generalize w.alloc (.cells #[.int .u8 K, .int .u16 M, .int .u32 L, .int .u32 S, .string T] 31) = W at *
  refine (text_any T W).mono ?_
  rintro e w1 ⟨rfl, hb⟩
  have hbl0 : b0 < W.heap.size := by rw [HZ.out]; omega
  have D0 := (Below.cell hb (p := ⟨b0, 0, none⟩) hbl0).trans C0
  have D1 := (Below.cell hb (p := ⟨b0, 1, none⟩) hbl0).trans C1
  have D2 := (Below.cell hb (p := ⟨b0, 2, none⟩) hbl0).trans C2
  have D3 := (Below.cell hb (p := ⟨b0, 3, none⟩) hbl0).trans C3
  have hbl : b0 < w1.heap.size := by have := hb.size; omega
  have B1 := Lib.hid (B0.out.trans (hb.mono (by rw [HZ.out]; omega)))
  have HB0 := Lib.hid hb0
  clear C0 C1 C2 C3 C4 hb B0 HZ hb0
  obtain ⟨t, htt⟩ : ∃ t, xB T = t := ⟨_, rfl⟩
  rw [htt] at HX ⊢
  have hts : t.size ≤ 65537 := by have := HX.out; omega
  have HT := Lib.hid htt
  clear htt
  have z1 : (bs (be 1 K)).size = 1 := by rw [bs_size, be_length]
  have z2 : (bs (be 2 M)).size = 2 := by rw [bs_size, be_length]
  have z3 : (bs (be 4 L)).size = 4 := by rw [bs_size, be_length]
  have z4 : (bs (be 4 S)).size = 4 := by rw [bs_size, be_length]
  go_wp2_with fail
  refine wp_region_G (fun w' => Below w1.heap.size w1 w') (by kernel_rfl) (by kernel_rfl) (Below.refl _ _).drew ?_
  refine wpG_val (.pointer (some ⟨b0, 0, none⟩)) rfl (by rfl) (fun w' hSw => by go_simp) ?_
  simp only [List.setIfInBounds_toArray, List.set_cons_zero, List.set_cons_succ]
  refine wpG_val (.int .u8 K) rfl (by rfl) (fun w' hSw => by have c := (Below.cell hSw (p := ⟨b0, 0, none⟩) hbl).trans D0; go_simp) ?_
  simp only [List.setIfInBounds_toArray, List.set_cons_zero, List.set_cons_succ]
  refine wpG_val (.int .u64 K) rfl (by rfl) (fun w' hSw => by have u := u64_id (n := K) (by omega); go_simp) ?_
  simp only [List.setIfInBounds_toArray, List.set_cons_zero, List.set_cons_succ]
  refine wpG_call (.string (bs (be 1 K))) 65 #[.int .u64 K, .int .i64 1] rfl (by rfl) (fun w' => by go_simp) (fun w' hSw => (number_in K 1 w' (by omega) (by omega) (by omega) (by omega)).mono fun e w2 h => ⟨h.1, hSw.trans (h.2.mono hSw.size)⟩) ?_
  simp only [List.setIfInBounds_toArray, List.set_cons_zero, List.set_cons_succ]
  refine wpG_val (.pointer (some ⟨b0, 1, none⟩)) rfl (by rfl) (fun w' hSw => by go_simp) ?_
  simp only [List.setIfInBounds_toArray, List.set_cons_zero, List.set_cons_succ]
  refine wpG_val (.int .u16 M) rfl (by rfl) (fun w' hSw => by have c := (Below.cell hSw (p := ⟨b0, 1, none⟩) hbl).trans D1; go_simp) ?_
  simp only [List.setIfInBounds_toArray, List.set_cons_zero, List.set_cons_succ]
  refine wpG_val (.int .u64 M) rfl (by rfl) (fun w' hSw => by have u := u64_id (n := M) (by omega); go_simp) ?_
  simp only [List.setIfInBounds_toArray, List.set_cons_zero, List.set_cons_succ]
  refine wpG_call (.string (bs (be 2 M))) 65 #[.int .u64 M, .int .i64 2] rfl (by rfl) (fun w' => by go_simp) (fun w' hSw => (number_in M 2 w' (by omega) (by omega) (by omega) (by omega)).mono fun e w2 h => ⟨h.1, hSw.trans (h.2.mono hSw.size)⟩) ?_
  simp only [List.setIfInBounds_toArray, List.set_cons_zero, List.set_cons_succ]
  refine wpG_val (.string (bs (be 1 K) ++ bs (be 2 M))) rfl (by rfl) (fun w' hSw => by go_simp) ?_
  simp only [List.setIfInBounds_toArray, List.set_cons_zero, List.set_cons_succ]
  refine wpG_val (.pointer (some ⟨b0, 2, none⟩)) rfl (by rfl) (fun w' hSw => by go_simp) ?_
  simp only [List.setIfInBounds_toArray, List.set_cons_zero, List.set_cons_succ]
  refine wpG_val (.int .u32 L) rfl (by rfl) (fun w' hSw => by have c := (Below.cell hSw (p := ⟨b0, 2, none⟩) hbl).trans D2; go_simp) ?_
  simp only [List.setIfInBounds_toArray, List.set_cons_zero, List.set_cons_succ]
  refine wpG_val (.int .u64 L) rfl (by rfl) (fun w' hSw => by have u := u64_id (n := L) (by omega); go_simp) ?_
  simp only [List.setIfInBounds_toArray, List.set_cons_zero, List.set_cons_succ]
  refine wpG_call (.string (bs (be 4 L))) 65 #[.int .u64 L, .int .i64 4] rfl (by rfl) (fun w' => by go_simp) (fun w' hSw => (number_in L 4 w' (by omega) (by omega) (by omega) (by omega)).mono fun e w2 h => ⟨h.1, hSw.trans (h.2.mono hSw.size)⟩) ?_
  simp only [List.setIfInBounds_toArray, List.set_cons_zero, List.set_cons_succ]
  refine wpG_val (.string (bs (be 1 K) ++ bs (be 2 M) ++ bs (be 4 L))) rfl (by rfl) (fun w' hSw => by go_simp) ?_
  simp only [List.setIfInBounds_toArray, List.set_cons_zero, List.set_cons_succ]
  refine wpG_val (.pointer (some ⟨b0, 3, none⟩)) rfl (by rfl) (fun w' hSw => by go_simp) ?_
  simp only [List.setIfInBounds_toArray, List.set_cons_zero, List.set_cons_succ]
  refine wpG_val (.int .u32 S) rfl (by rfl) (fun w' hSw => by have c := (Below.cell hSw (p := ⟨b0, 3, none⟩) hbl).trans D3; go_simp) ?_
  simp only [List.setIfInBounds_toArray, List.set_cons_zero, List.set_cons_succ]
  refine wpG_val (.int .u64 S) rfl (by rfl) (fun w' hSw => by have u := u64_id (n := S) (by omega); go_simp) ?_
  simp only [List.setIfInBounds_toArray, List.set_cons_zero, List.set_cons_succ]
  refine wpG_call (.string (bs (be 4 S))) 65 #[.int .u64 S, .int .i64 4] rfl (by rfl) (fun w' => by go_simp) (fun w' hSw => (number_in S 4 w' (by omega) (by omega) (by omega) (by omega)).mono fun e w2 h => ⟨h.1, hSw.trans (h.2.mono hSw.size)⟩) ?_
  simp only [List.setIfInBounds_toArray, List.set_cons_zero, List.set_cons_succ]
  refine wpG_val (.string (bs (be 1 K) ++ bs (be 2 M) ++ bs (be 4 L) ++ bs (be 4 S))) rfl (by rfl) (fun w' hSw => by go_simp) ?_
  simp only [List.setIfInBounds_toArray, List.set_cons_zero, List.set_cons_succ]
  refine wpG_val (.string t) rfl (by rfl) (fun w' hSw => by go_simp) ?_
  simp only [List.setIfInBounds_toArray, List.set_cons_zero, List.set_cons_succ]
  refine wpG_val (.string (bs (be 1 K) ++ bs (be 2 M) ++ bs (be 4 L) ++ bs (be 4 S) ++ t)) rfl (by rfl) (fun w' hSw => by go_simp <;> omega) ?_
  simp only [List.setIfInBounds_toArray, List.set_cons_zero, List.set_cons_succ]
  refine wpG_val (.string (bs (be 1 K) ++ bs (be 2 M) ++ bs (be 4 L) ++ bs (be 4 S) ++ t)) rfl (by rfl) (fun w' hSw => by go_simp) ?_
  simp only [List.setIfInBounds_toArray, List.set_cons_zero, List.set_cons_succ]
  refine wpG_nil ?_
  intro wS hSw
  go_wp2
  go_ret
  exact ⟨by rw [HT.out]; rfl, by rw [HB0.out]; exact B1.out.trans (hSw.mono (Nat.le_of_lt hbl))⟩
/-- an inode's bytes, or none -/
def enI (n : In) : ByteArray := if okI n then wrI n else ByteArray.empty
theorem chI_yes {n : In} (h : okI n = true) : chI n = 0 ∧ enI n = wrI n := by unfold chI enI; rw [h]; exact ⟨rfl, rfl⟩
theorem chI_no {n : In} (h : okI n = false) : chI n = 4 ∧ enI n = ByteArray.empty := by unfold chI enI; rw [h]; exact ⟨rfl, rfl⟩
set_option maxRecDepth 100000 in
set_option maxHeartbeats 1000000 in
theorem encode_in (n : In) (hl : n.lim) (w : World) :
    Calls Tryz.prog 32 #[vI n] w fun e w' => e = .returned (.tuple #[.string (enI n), .int .i64 (chI n)]) ∧ Below w.heap.size w w' := by
  obtain ⟨K, M, L, S, T⟩ := n
  have HC := Lib.hid (check_in ⟨K, M, L, S, T⟩ hl)
  have HW := Lib.hid (fun ht w => written_in ⟨K, M, L, S, T⟩ hl ht w)
  have C0 := box_cell w #[.int .u8 K, .int .u16 M, .int .u32 L, .int .u32 S, .string T] 31 0 rfl
  have C1 := box_cell w #[.int .u8 K, .int .u16 M, .int .u32 L, .int .u32 S, .string T] 31 1 rfl
  have C2 := box_cell w #[.int .u8 K, .int .u16 M, .int .u32 L, .int .u32 S, .string T] 31 2 rfl
  have C3 := box_cell w #[.int .u8 K, .int .u16 M, .int .u32 L, .int .u32 S, .string T] 31 3 rfl
  have C4 := box_cell w #[.int .u8 K, .int .u16 M, .int .u32 L, .int .u32 S, .string T] 31 4 rfl
  have B0 := Lib.hid ((Below.refl w.heap.size w).alloc (Nat.le_refl _) (.cells #[.int .u8 K, .int .u16 M, .int .u32 L, .int .u32 S, .string T] 31))
  have hsz : (w.alloc (.cells #[.int .u8 K, .int .u16 M, .int .u32 L, .int .u32 S, .string T] 31)).heap.size = w.heap.size + 1 := by simp
  have HZ := Lib.hid hsz
  clear hsz
  unfold vI
  dsimp only
  go_enter Tryz.func32, Tryz.ntmps32
  go_wp2_with fail
  change Calls _ _ _ (w.alloc (.cells #[.int .u8 K, .int .u16 M, .int .u32 L, .int .u32 S, .string T] 31)) _
  generalize w.alloc (.cells #[.int .u8 K, .int .u16 M, .int .u32 L, .int .u32 S, .string T] 31) = W at *
  refine (HC.out W).mono ?_
  rintro e w1 ⟨rfl, hb⟩
  have hbl0 : w.heap.size < W.heap.size := by rw [HZ.out]; omega
  have D0 := (Below.cell hb (p := ⟨w.heap.size, 0, none⟩) hbl0).trans C0
  have D1 := (Below.cell hb (p := ⟨w.heap.size, 1, none⟩) hbl0).trans C1
  have D2 := (Below.cell hb (p := ⟨w.heap.size, 2, none⟩) hbl0).trans C2
  have D3 := (Below.cell hb (p := ⟨w.heap.size, 3, none⟩) hbl0).trans C3
  have D4 := (Below.cell hb (p := ⟨w.heap.size, 4, none⟩) hbl0).trans C4
  have B1 := Lib.hid (B0.out.trans (hb.mono (by rw [HZ.out]; omega)))
  clear C0 C1 C2 C3 C4 hb B0 HZ HC
  cases hq : okI ⟨K, M, L, S, T⟩
  · have HQ := Lib.hid (chI_no hq)
    rw [HQ.out.1]
    clear hq
    go_wp2
    go_ret2
    exact ⟨by rw [HQ.out.1, HQ.out.2]; rfl, B1.out⟩
  · have HQ := Lib.hid (chI_yes hq)
    have HW2 := Lib.hid (HW.out (by have := (okI_size hq).1; dsimp only at this ⊢; omega))
    rw [HQ.out.1]
    clear hq HW
    go_wp2_with (go_at_call 47; refine (HW2.out _).mono ?_; rintro e w' ⟨rfl, hb⟩)
    go_ret2
    exact ⟨by rw [HQ.out.1, HQ.out.2]; rfl, B1.out.trans (hb.mono B1.out.size)⟩
theorem setRow_heap' {w : World} {g : Nat} {cs old : Array Value} {t : TypeId} {f : Nat × Nat} (h : w.heap[g]? = some (.cells old t f)) : (w.setRow g cs).heap[g]? = some (.cells cs t f) := setRow_heap w g old cs t f h
theorem below_setRow {B : Nat} {w w1 : World} (h : Below B w w1) {g : Nat} (hg : B ≤ g) (cs : Array Value) : Below B w (w1.setRow g cs) :=
  ⟨h.os, h.tape, h.output, by simpa [World.setRow] using h.size, fun k hk => by
    have : (w1.setRow g cs).heap[k]? = w1.heap[k]? := by
      unfold World.setRow
      simp only [Array.getElem?_modify]
      rw [if_neg (by omega)]
    rw [this]
    exact h.block k hk⟩
theorem row_bel {w w' : World} {g B : Nat} {o : Obj} (h : w.heap[g]? = some o) (hb : Below B w w') (hg : g < B) : w'.heap[g]? = some o := (hb.block g hg).trans h
theorem row5 (K M L S : Int) (T : ByteArray) : (#[.int .u8 K, .int .u16 M, .int .u32 L, .int .u32 S, .string T] : Array Value).all (·.oneCell') = true := by simp [Value.oneCell']
theorem tn_nat (s : ByteArray) (k : Nat) (h : k ≤ 8) : tN s (k : Int) = ((tN s (k : Int)).toNat : Int) := by have := (tN_lt s k h).1; omega
theorem u8_id {n : Nat} (h : n < 256) : IntKind.u8.wrap (n : Int) = n := by simp [IntKind.wrap, IntKind.bits, IntKind.signed]; omega
theorem u16_id {n : Nat} (h : n < 65536) : IntKind.u16.wrap (n : Int) = n := by simp [IntKind.wrap, IntKind.bits, IntKind.signed]; omega
theorem u32_id {n : Nat} (h : n < 4294967296) : IntKind.u32.wrap (n : Int) = n := by simp [IntKind.wrap, IntKind.bits, IntKind.signed]; omega
theorem takeNat (s : ByteArray) (k m : Nat) (r : ByteArray) (hs : s.size ≤ maxLen) (hk : k ≤ 8) (hm : (tN s (k : Int)).toNat = m) (hr : tR s (k : Int) = r) (w : World) :
    Calls Tryz.prog 105 #[.string s, .int .i64 k] w fun e w' => e = .returned (.tuple #[.int .u64 (m : Int), .string r]) ∧ Below w.heap.size w w' := by
  have h := takeNumber_in s k w hs
  rw [tn_nat s k hk, hm, hr] at h
  exact h
set_option maxRecDepth 100000 in
set_option maxHeartbeats 2000000 in
theorem taken_in (s : ByteArray) (hs : s.size ≤ maxLen) (w : World) :
    Calls Tryz.prog 117 #[.string s] w fun e w' => e = .returned (vI (tkI s)) ∧ Below w.heap.size w w' := by
  have hlim := tkI_lim s
  obtain ⟨K, hK⟩ : ∃ K, (tN s ((1 : Nat) : Int)).toNat = K := ⟨_, rfl⟩
  obtain ⟨r1, h1⟩ : ∃ r, tR s ((1 : Nat) : Int) = r := ⟨_, rfl⟩
  obtain ⟨M, hM⟩ : ∃ K, (tN r1 ((2 : Nat) : Int)).toNat = K := ⟨_, rfl⟩
  obtain ⟨r2, h2⟩ : ∃ r, tR r1 ((2 : Nat) : Int) = r := ⟨_, rfl⟩
  obtain ⟨L, hL⟩ : ∃ K, (tN r2 ((4 : Nat) : Int)).toNat = K := ⟨_, rfl⟩
  obtain ⟨r3, h3⟩ : ∃ r, tR r2 ((4 : Nat) : Int) = r := ⟨_, rfl⟩
  obtain ⟨S, hS⟩ : ∃ K, (tN r3 ((4 : Nat) : Int)).toNat = K := ⟨_, rfl⟩
  obtain ⟨r4, h4⟩ : ∃ r, tR r3 ((4 : Nat) : Int) = r := ⟨_, rfl⟩
  obtain ⟨T, hT⟩ : ∃ r, uT r4 = r := ⟨_, rfl⟩
  have hn : tkI s = ⟨K, M, L, S, T⟩ := by subst hK h1 hM h2 hL h3 hS h4 hT; rfl
  have z1 : r1.size ≤ maxLen := by rw [← h1]; exact Nat.le_trans (tR_le _ _) hs
  have z2 : r2.size ≤ maxLen := by rw [← h2]; exact Nat.le_trans (tR_le _ _) z1
  have z3 : r3.size ≤ maxLen := by rw [← h3]; exact Nat.le_trans (tR_le _ _) z2
  have z4 : r4.size ≤ maxLen := by rw [← h4]; exact Nat.le_trans (tR_le _ _) z3
  have C1 := Lib.hid (takeNat s 1 K r1 hs (by omega) hK h1)
  have C2 := Lib.hid (takeNat r1 2 M r2 z1 (by omega) hM h2)
  have C3 := Lib.hid (takeNat r2 4 L r3 z2 (by omega) hL h3)
  have C4 := Lib.hid (takeNat r3 4 S r4 z3 (by omega) hS h4)
  have C5 := Lib.hid (fun w => taketext_any r4 w z4)
  rw [hT] at C5
  rw [hn] at hlim ⊢
  obtain ⟨l1, l2, l3, l4⟩ := hlim
  dsimp only at l1 l2 l3 l4
  have U1 := Lib.hid (u8_id l1)
  have U2 := Lib.hid (u16_id l2)
  have U3 := Lib.hid (u32_id l3)
  have U4 := Lib.hid (u32_id l4)
  clear hn hK h1 hM h2 hL h3 hS h4 hT z1 z2 z3 z4 l1 l2 l3 l4 hs
  have R0 := Lib.hid (heap_alloc_new w (.cells #[.int .u8 0, .int .u16 0, .int .u32 0, .int .u32 0, .string ⟨#[]⟩] 31))
  have B0 := Lib.hid ((Below.refl w.heap.size w).alloc (Nat.le_refl _) (.cells #[.int .u8 0, .int .u16 0, .int .u32 0, .int .u32 0, .string ⟨#[]⟩] 31))
  have hsz : w.heap.size < (w.alloc (.cells #[.int .u8 0, .int .u16 0, .int .u32 0, .int .u32 0, .string ⟨#[]⟩] 31)).heap.size := by simp
  unfold vI
  dsimp only
  go_enter Tryz.func117, Tryz.ntmps117
  go_wp2_with fail
  change Calls _ _ _ (w.alloc (.cells #[.int .u8 0, .int .u16 0, .int .u32 0, .int .u32 0, .string ⟨#[]⟩] 31)) _
  generalize w.alloc (.cells #[.int .u8 0, .int .u16 0, .int .u32 0, .int .u32 0, .string ⟨#[]⟩] 31) = W at *
  refine (C1.out _).mono ?_
  rintro e w1 ⟨rfl, hb⟩
  have R1 := Lib.hid (row_bel R0.out hb hsz)
  have B1 := Lib.hid (B0.out.trans (hb.mono B0.out.size))
  replace hsz := Nat.lt_of_lt_of_le hsz hb.size
  clear hb R0 B0 C1
  go_wp2_with fail
  refine (C2.out _).mono ?_
  rintro e w2 ⟨rfl, hb⟩
  have R2 := Lib.hid (row_bel R1.out hb hsz)
  have B2 := Lib.hid (B1.out.trans (hb.mono B1.out.size))
  replace hsz := Nat.lt_of_lt_of_le hsz hb.size
  clear hb R1 B1 C2
  go_wp2_with fail
  refine (C3.out _).mono ?_
  rintro e w3 ⟨rfl, hb⟩
  have R3 := Lib.hid (row_bel R2.out hb hsz)
  have B3 := Lib.hid (B2.out.trans (hb.mono B2.out.size))
  replace hsz := Nat.lt_of_lt_of_le hsz hb.size
  clear hb R2 B2 C3
  go_wp2_with fail
  refine (C4.out _).mono ?_
  rintro e w4 ⟨rfl, hb⟩
  have R4 := Lib.hid (row_bel R3.out hb hsz)
  have B4 := Lib.hid (B3.out.trans (hb.mono B3.out.size))
  replace hsz := Nat.lt_of_lt_of_le hsz hb.size
  clear hb R3 B3 C4
  go_wp2_with fail
  refine (C5.out _).mono ?_
  rintro e w5 ⟨rfl, hb⟩
  have R5 := Lib.hid (row_bel R4.out hb hsz)
  have B5 := Lib.hid (B4.out.trans (hb.mono B4.out.size))
  replace hsz := Nat.lt_of_lt_of_le hsz hb.size
  clear hb R4 B4 C5
  have u1 := U1.out
  have u2 := U2.out
  have u3 := U3.out
  have u4 := U4.out
  go_wp2_with (refine wpList_store_row rfl 31 (.tmp 2) (.tmp 46) rfl w.heap.size #[.int .u8 K, .int .u16 M, .int .u32 L, .int .u32 S, .string T] rfl rfl 31 #[.int .u8 0, .int .u16 0, .int .u32 0, .int .u32 0, .string ⟨#[]⟩] R5.out (by kernel_rfl) rfl (row5 _ _ _ _ _) ?_)
  have hg2 := setRow_heap' (cs := #[.int .u8 K, .int .u16 M, .int .u32 L, .int .u32 S, .string T]) R5.out
  refine bodyPost_ret (v := .agg #[.int .u8 K, .int .u16 M, .int .u32 L, .int .u32 S, .string T]) (results_cell_row rfl _ _ w.heap.size 31 #[.int .u8 K, .int .u16 M, .int .u32 L, .int .u32 S, .string T] (0, 0) _ rfl hg2 Tryz.underlying31 rfl (by kernel_rfl)) rfl ?_
  exact ⟨rfl, below_setRow B5.out (Nat.le_refl _) _⟩
theorem results_row2 {P : Program} {fn : Func} {p u : Tmp} {ty : TypeId} (h : fn.results = #[.cell p ty, .tmp u]) (tmps : Array Value) (w : World) (g : Nat) (t : TypeId) (cs : Array Value) (fr : Nat × Nat) (d : TypeDesc)
    (hp : tmps.getD p undef = .pointer (some ⟨g, 0, none⟩)) (hg : w.heap[g]? = some (.cells cs t fr))
    (hu : P.underlying ty = some d) (hd : (match d with | .struct _ | .array _ _ => true | _ => false) = true) (hi : (P.info? ty).map (·.size) = some cs.size) (r : Value) (hr : tmps.getD u undef = r) :
    (results fn tmps).run P w = .ok (.tuple #[.agg cs, r]) w := by
  rw [results_cell_tmp h, hp, hr]
  simp [asAddr, run_loadVar_row w g t ty cs fr d hg hu hd hi, Result.andThen]
theorem new_row {w1 : World} {g g2 : Nat} {o : Obj} {old cs : Array Value} {t : TypeId} (h : w1.heap[g]? = some o) (hg2 : w1.heap.size = g2) : ((w1.alloc (.cells old t)).setRow g2 cs).heap[g]? = some o ∧ ((w1.alloc (.cells old t)).setRow g2 cs).heap[g2]? = some (.cells cs t (0, 0)) ∧ Below w1.heap.size w1 ((w1.alloc (.cells old t)).setRow g2 cs) := by
  subst hg2
  have hlt : g < w1.heap.size := by
    rcases Nat.lt_or_ge g w1.heap.size with h' | h'
    · exact h'
    · rw [Array.getElem?_eq_none h'] at h; cases h
  have hb := below_setRow ((Below.refl w1.heap.size w1).alloc (Nat.le_refl _) (.cells old t)) (Nat.le_refl w1.heap.size) cs
  exact ⟨(hb.block g hlt).trans h, setRow_heap' (heap_alloc_new w1 _), hb⟩
theorem ne_str {x y : ByteArray} (h : x ≠ y) : (x.toList != y.toList) = true ∧ (x.toList == y.toList) = false := by
  have e : (x.toList == y.toList) = false := by
    rw [beq_eq_false_iff_ne, tl, tl]
    exact fun e => h (ByteArray.ext (Array.toList_inj.1 e))
  exact ⟨by rw [bne, e]; rfl, e⟩
theorem eq_str (x : ByteArray) : (x.toList != x.toList) = false ∧ (x.toList == x.toList) = true := by
  have e : (x.toList == x.toList) = true := beq_self_eq_true _
  exact ⟨by rw [bne, e]; rfl, e⟩
set_option maxRecDepth 100000 in
set_option maxHeartbeats 2000000 in
theorem decode_in (s : ByteArray) (hs : s.size ≤ maxLen) (w : World) :
    Calls Tryz.prog 106 #[.string s] w fun e w' => e = .returned (.tuple #[vI (deI s), .int .i64 (deIE s)]) ∧ Below w.heap.size w w' := by
  have CT := Lib.hid (taken_in s hs)
  have hlim := tkI_lim s
  have HI : Hid (deI s = if okI (tkI s) = true ∧ wrI (tkI s) = s then tkI s else zIn) := Lib.hid rfl
  have HX : Hid (deIE s = if okI (tkI s) = true ∧ wrI (tkI s) = s then 0 else 4) := Lib.hid rfl
  generalize tkI s = n at *
  have CE := Lib.hid (encode_in n hlim)
  have HE := Lib.hid (@chI_yes n)
  have HF := Lib.hid (@chI_no n)
  obtain ⟨K, M, L, S, T⟩ := n
  unfold vI at CT CE
  dsimp only at CT CE
  have R0 := Lib.hid (heap_alloc_new w (.cells #[.int .u8 0, .int .u16 0, .int .u32 0, .int .u32 0, .string ⟨#[]⟩] 31))
  have B0 := Lib.hid ((Below.refl w.heap.size w).alloc (Nat.le_refl _) (.cells #[.int .u8 0, .int .u16 0, .int .u32 0, .int .u32 0, .string ⟨#[]⟩] 31))
  have hsz : w.heap.size < (w.alloc (.cells #[.int .u8 0, .int .u16 0, .int .u32 0, .int .u32 0, .string ⟨#[]⟩] 31)).heap.size := by simp
  clear hs
  go_enter Tryz.func106, Tryz.ntmps106
  go_wp2_with fail
  change Calls _ _ _ (w.alloc (.cells #[.int .u8 0, .int .u16 0, .int .u32 0, .int .u32 0, .string ⟨#[]⟩] 31)) _
  generalize w.alloc (.cells #[.int .u8 0, .int .u16 0, .int .u32 0, .int .u32 0, .string ⟨#[]⟩] 31) = W at *
  refine (CT.out _).mono ?_
  rintro e w1 ⟨rfl, hb⟩
  have R1 := Lib.hid (row_bel R0.out hb hsz)
  have B1 := Lib.hid (B0.out.trans (hb.mono B0.out.size))
  have N1 := Lib.hid (new_row (old := #[.int .u8 0, .int .u16 0, .int .u32 0, .int .u32 0, .string ⟨#[]⟩]) (cs := #[.int .u8 K, .int .u16 M, .int .u32 L, .int .u32 S, .string T]) (t := 31) R1.out rfl)
  clear hb R0 B0 CT
  go_wp2_with (first
    | (refine wpList_store_row rfl 31 (.tmp 4) (.tmp 8) rfl w1.heap.size #[.int .u8 K, .int .u16 M, .int .u32 L, .int .u32 S, .string T] rfl rfl 31 #[.int .u8 0, .int .u16 0, .int .u32 0, .int .u32 0, .string ⟨#[]⟩] (heap_alloc_new w1 _) (by kernel_rfl) rfl (row5 _ _ _ _ _) ?_; change wpList _ _ _ _ _ ((w1.alloc (.cells #[.int .u8 0, .int .u16 0, .int .u32 0, .int .u32 0, .string ⟨#[]⟩] 31)).setRow w1.heap.size #[.int .u8 K, .int .u16 M, .int .u32 L, .int .u32 S, .string T]); generalize ((w1.alloc (.cells #[.int .u8 0, .int .u16 0, .int .u32 0, .int .u32 0, .string ⟨#[]⟩] 31)).setRow w1.heap.size #[.int .u8 K, .int .u16 M, .int .u32 L, .int .u32 S, .string T]) = W2 at *)
    | (refine wpList_load_row rfl 31 (.tmp 4) rfl w1.heap.size rfl 31 #[.int .u8 K, .int .u16 M, .int .u32 L, .int .u32 S, .string T] (0, 0) _ N1.out.2.1 Tryz.underlying31 rfl (by kernel_rfl) ?_))
  refine (CE.out _).mono ?_
  rintro e w3 ⟨rfl, hb⟩
  have hlt2 : w1.heap.size < W2.heap.size := by
    rcases Nat.lt_or_ge w1.heap.size W2.heap.size with h' | h'
    · exact h'
    · have := N1.out.2.1; rw [Array.getElem?_eq_none h'] at this; cases this
  have Rg := Lib.hid (row_bel N1.out.1 hb (by have := B1.out.size; omega))
  have Rn := Lib.hid (row_bel N1.out.2.1 hb hlt2)
  have B3 := Lib.hid (B1.out.trans ((N1.out.2.2.trans (hb.mono N1.out.2.2.size)).mono B1.out.size))
  clear hb N1 CE R1 B1 hlt2 hsz
  have hz := setRow_heap' (cs := #[.int .u8 0, .int .u16 0, .int .u32 0, .int .u32 0, .string ⟨#[]⟩]) Rg.out
  have hr := setRow_heap' (cs := #[.int .u8 K, .int .u16 M, .int .u32 L, .int .u32 S, .string T]) Rg.out
  have HZ := Lib.hid hz
  have HR := Lib.hid hr
  clear hz hr
  cases hq : okI ⟨K, M, L, S, T⟩
  · obtain ⟨e1, e2⟩ := HF.out hq
    have H1 := Lib.hid (show deI s = zIn by rw [HI.out, if_neg (by rw [hq]; rintro ⟨h, _⟩; cases h)])
    have H2 := Lib.hid (show deIE s = 4 by rw [HX.out, if_neg (by rw [hq]; rintro ⟨h, _⟩; cases h)])
    rw [e1]
    clear hq e1 e2 HE HF HI HX
    go_wp2_with (refine wpList_store_row rfl 31 (.tmp 2) (.tmp 21) rfl w.heap.size #[.int .u8 0, .int .u16 0, .int .u32 0, .int .u32 0, .string ⟨#[]⟩] rfl rfl 31 #[.int .u8 0, .int .u16 0, .int .u32 0, .int .u32 0, .string ⟨#[]⟩] Rg.out (by kernel_rfl) rfl (row5 _ _ _ _ _) ?_)
    refine bodyPost_ret (v := .tuple #[.agg #[.int .u8 0, .int .u16 0, .int .u32 0, .int .u32 0, .string ⟨#[]⟩], .int .i64 4]) (results_row2 rfl _ _ w.heap.size 31 #[.int .u8 0, .int .u16 0, .int .u32 0, .int .u32 0, .string ⟨#[]⟩] (0, 0) _ rfl HZ.out Tryz.underlying31 rfl (by kernel_rfl) _ rfl) rfl ?_
    exact ⟨by rw [H1.out, H2.out]; rfl, below_setRow B3.out (Nat.le_refl _) _⟩
  · obtain ⟨e1, e2⟩ := HE.out hq
    by_cases hw : wrI ⟨K, M, L, S, T⟩ = s
    · obtain ⟨s1, s2⟩ := eq_str s
      have H1 := Lib.hid (show deI s = ⟨K, M, L, S, T⟩ by rw [HI.out, if_pos ⟨hq, hw⟩])
      have H2 := Lib.hid (show deIE s = 0 by rw [HX.out, if_pos ⟨hq, hw⟩])
      rw [e1, e2, hw]
      clear hq hw e1 e2 HE HF HI HX
      go_wp2_with (first
        | (refine wpList_load_row rfl 31 (.tmp 4) rfl w1.heap.size rfl 31 #[.int .u8 K, .int .u16 M, .int .u32 L, .int .u32 S, .string T] (0, 0) _ Rn.out Tryz.underlying31 rfl (by kernel_rfl) ?_)
        | (refine wpList_store_row rfl 31 (.tmp 2) (.tmp 22) rfl w.heap.size #[.int .u8 K, .int .u16 M, .int .u32 L, .int .u32 S, .string T] rfl rfl 31 #[.int .u8 0, .int .u16 0, .int .u32 0, .int .u32 0, .string ⟨#[]⟩] Rg.out (by kernel_rfl) rfl (row5 _ _ _ _ _) ?_))
      refine bodyPost_ret (v := .tuple #[.agg #[.int .u8 K, .int .u16 M, .int .u32 L, .int .u32 S, .string T], .int .i64 0]) (results_row2 rfl _ _ w.heap.size 31 #[.int .u8 K, .int .u16 M, .int .u32 L, .int .u32 S, .string T] (0, 0) _ rfl HR.out Tryz.underlying31 rfl (by kernel_rfl) _ rfl) rfl ?_
      exact ⟨by rw [H1.out, H2.out]; rfl, below_setRow B3.out (Nat.le_refl _) _⟩
    · obtain ⟨s1, s2⟩ := ne_str hw
      have H1 := Lib.hid (show deI s = zIn by rw [HI.out, if_neg (fun h => hw h.2)])
      have H2 := Lib.hid (show deIE s = 4 by rw [HX.out, if_neg (fun h => hw h.2)])
      rw [e1, e2]
      clear hq hw e1 e2 HE HF HI HX
      go_wp2_with (refine wpList_store_row rfl 31 (.tmp 2) (.tmp 21) rfl w.heap.size #[.int .u8 0, .int .u16 0, .int .u32 0, .int .u32 0, .string ⟨#[]⟩] rfl rfl 31 #[.int .u8 0, .int .u16 0, .int .u32 0, .int .u32 0, .string ⟨#[]⟩] Rg.out (by kernel_rfl) rfl (row5 _ _ _ _ _) ?_)
      refine bodyPost_ret (v := .tuple #[.agg #[.int .u8 0, .int .u16 0, .int .u32 0, .int .u32 0, .string ⟨#[]⟩], .int .i64 4]) (results_row2 rfl _ _ w.heap.size 31 #[.int .u8 0, .int .u16 0, .int .u32 0, .int .u32 0, .string ⟨#[]⟩] (0, 0) _ rfl HZ.out Tryz.underlying31 rfl (by kernel_rfl) _ rfl) rfl ?_
      exact ⟨by rw [H1.out, H2.out]; rfl, below_setRow B3.out (Nat.le_refl _) _⟩
end Go.Proofs.YtngcogjjcidccaaGreat.Ino
