/- The walks of the laws InodeLimits, InodeCodes, InodeKeys: each answers true. -/
import Derived.Test.YtkmbophbjgfacaaInF
namespace Go.Proofs.Ytkmbophbjgfacaa.Ino
set_option linter.unusedVariables false
set_option linter.unusedSimpArgs false
open Go.ChangeShapes Go.WideShapes Go.ChangeAt Go.RowKit
open BigFrame
open Rg
open Pk (be num be_length num_be num_lt bs bs_size nB nE tN tR tE xB_size)
open Ph (has tl tl_len nb)
theorem two_box (w : World) (c1 c2 : Array Value) (t1 t2 : TypeId) : ((w.alloc (.cells c1 t1)).alloc (.cells c2 t2)).heap[w.heap.size]? = some (.cells c1 t1 (0, 0)) ∧ ((w.alloc (.cells c1 t1)).alloc (.cells c2 t2)).heap[w.heap.size + 1]? = some (.cells c2 t2 (0, 0)) ∧
    Below w.heap.size w ((w.alloc (.cells c1 t1)).alloc (.cells c2 t2)) ∧ w.heap.size + 1 < ((w.alloc (.cells c1 t1)).alloc (.cells c2 t2)).heap.size := by
  refine ⟨?_, ?_, ((Below.refl _ _).alloc (Nat.le_refl _) _).alloc (by simp) _, by simp⟩
  · have h1 := heap_alloc_new w (.cells c1 t1)
    have h2 : Below (w.heap.size + 1) (w.alloc (.cells c1 t1)) ((w.alloc (.cells c1 t1)).alloc (.cells c2 t2)) := (Below.refl _ _).alloc (by simp) _
    exact (h2.block _ (Nat.lt_succ_self _)).trans h1
  · have := heap_alloc_new (w.alloc (.cells c1 t1)) (.cells c2 t2)
    simpa using this
theorem enI_size (n : In) : (okI n = true → chI n = 0 ∧ 13 ≤ (enI n).size ∧ (enI n).size ≤ 77) ∧ (okI n = false → chI n = 4 ∧ (enI n).size = 0) := by
  constructor
  · intro h
    have ht := (okI_size h).1
    rw [(chI_yes h).1, (chI_yes h).2, wrI_size n (by omega)]
    omega
  · intro h
    rw [(chI_no h).1, (chI_no h).2]
    exact ⟨rfl, rfl⟩
theorem enK_size (k : Ky) : (okK k = true → chK k = 0 ∧ 5 ≤ (enK k).size ∧ (enK k).size ≤ 29) ∧ (okK k = false → chK k = 4 ∧ (enK k).size = 0) := by
  constructor
  · intro h
    have ht := wrK_pfx h
    rw [(chK_yes h).1, (chK_yes h).2]
    exact ⟨rfl, ht.2.2.1, ht.2.2.2⟩
  · intro h
    rw [(chK_no h).1, (chK_no h).2]
    exact ⟨rfl, rfl⟩
set_option maxRecDepth 100000 in
set_option maxHeartbeats 4000000 in
theorem inodeLimits_walk (w : World) (n : In) (hl : n.lim) (k : Ky) (hk : k.lim) :
    Calls Try.prog 13 #[vI n, vK k] w fun e w' => e = .returned (.bool true) ∧ Below w.heap.size w w' := by
  have HSI := Lib.hid (enI_size n)
  have HSK := Lib.hid (enK_size k)
  have CI := Lib.hid (encode_in n hl)
  have CK := Lib.hid (key_in k hk)
  obtain ⟨a, ha⟩ : ∃ a, enI n = a := ⟨_, rfl⟩
  obtain ⟨x, hx⟩ : ∃ a, chI n = a := ⟨_, rfl⟩
  obtain ⟨b, hb⟩ : ∃ a, enK k = a := ⟨_, rfl⟩
  obtain ⟨y, hy⟩ : ∃ a, chK k = a := ⟨_, rfl⟩
  rw [ha, hx] at HSI CI
  rw [hb, hy] at HSK CK
  have XI : (x = 0 ∧ 13 ≤ a.size ∧ a.size ≤ 77) ∨ (x = 4 ∧ a.size = 0) := by
    cases h : okI n
    · exact .inr (HSI.out.2 h)
    · exact .inl (HSI.out.1 h)
  have XK : (y = 0 ∧ 5 ≤ b.size ∧ b.size ≤ 29) ∨ (y = 4 ∧ b.size = 0) := by
    cases h : okK k
    · exact .inr (HSK.out.2 h)
    · exact .inl (HSK.out.1 h)
  clear ha hx hb hy HSI HSK
  obtain ⟨K, M, L, S, T⟩ := n
  obtain ⟨K2, I, N, C⟩ := k
  have P0 := Lib.hid (fun w => prefix_in 0 1 (by omega) (by omega) w)
  have P5 := Lib.hid (fun w => prefix_in 5 1 (by omega) (by omega) w)
  obtain ⟨p0, hp0⟩ : ∃ p, pfx 0 1 = p := ⟨_, rfl⟩
  obtain ⟨p5, hp5⟩ : ∃ p, pfx 5 1 = p := ⟨_, rfl⟩
  rw [hp0] at P0
  rw [hp5] at P5
  have e0 : p0.toList.isEmpty = true := by rw [← hp0, tl]; rfl
  have e5 : p5.toList.isEmpty = true := by rw [← hp5, tl]; rfl
  have i0 : p0.toList = [] := by rw [← hp0, tl]; rfl
  have i5 : p5.toList = [] := by rw [← hp5, tl]; rfl
  have TB := Lib.hid (two_box w #[.int .u8 K, .int .u16 M, .int .u32 L, .int .u32 S, .string T] #[.int .u8 K2, .int .u32 I, .string N, .int .u32 C] 39 47)
  clear hp0 hp5
  unfold vI vK at *
  dsimp only at *
  go_enter Try.func13, Try.ntmps13
  go_wp2_with fail
  change Calls _ _ _ ((w.alloc (.cells #[.int .u8 K, .int .u16 M, .int .u32 L, .int .u32 S, .string T] 39)).alloc (.cells #[.int .u8 K2, .int .u32 I, .string N, .int .u32 C] 47)) _
  generalize ((w.alloc (.cells #[.int .u8 K, .int .u16 M, .int .u32 L, .int .u32 S, .string T] 39)).alloc (.cells #[.int .u8 K2, .int .u32 I, .string N, .int .u32 C] 47)) = W at *
  refine (lives_in _).mono ?_
  rintro e w1 ⟨rfl, hb⟩
  have R1 := Lib.hid (row_bel TB.out.1 hb (by have := TB.out.2.2.2; omega))
  have Q1 := Lib.hid (row_bel TB.out.2.1 hb TB.out.2.2.2)
  have B1 := Lib.hid (TB.out.2.2.1.trans (hb.mono TB.out.2.2.1.size))
  have l1 : w.heap.size + 1 < w1.heap.size := Nat.lt_of_lt_of_le TB.out.2.2.2 hb.size
  clear hb TB
  go_wp2_with (refine wpList_load_row rfl 39 (.tmp 2) rfl w.heap.size rfl 39 #[.int .u8 K, .int .u16 M, .int .u32 L, .int .u32 S, .string T] (0, 0) _ R1.out Try.underlying39 rfl (by kernel_rfl) ?_)
  refine (CI.out _).mono ?_
  rintro e w2 ⟨rfl, hb⟩
  have Q2 := Lib.hid (row_bel Q1.out hb l1)
  have B2 := Lib.hid (B1.out.trans (hb.mono B1.out.size))
  clear hb R1 Q1 B1 CI l1
  go_wp2_with (refine wpList_load_row rfl 47 (.tmp 3) rfl (w.heap.size + 1) rfl 47 #[.int .u8 K2, .int .u32 I, .string N, .int .u32 C] (0, 0) _ Q2.out Try.underlying47 rfl (by kernel_rfl) ?_)
  refine (CK.out _).mono ?_
  rintro e w3 ⟨rfl, hb⟩
  have B3 := Lib.hid (B2.out.trans (hb.mono B2.out.size))
  clear hb Q2 B2 CK
  have XA := Lib.hid XI
  have XB := Lib.hid XK
  clear XI XK
  rcases XA.out with ⟨rfl, a1, a2⟩ | ⟨rfl, a1⟩
  · have d1 : decide ((13 : Int) ≤ (a.size : Int)) = true := by simp; omega
    have d2 : decide ((a.size : Int) ≤ 160) = true := by simp; omega
    rcases XB.out with ⟨rfl, b1, b2⟩ | ⟨rfl, b1⟩
    · have d3 : decide ((5 : Int) ≤ (b.size : Int)) = true := by simp; omega
      have d4 : decide ((b.size : Int) ≤ 48) = true := by simp; omega
      clear XA XB
      go_wp2_with fail
      refine (P0.out _).mono ?_
      rintro e w4 ⟨rfl, hb⟩
      have B4 := Lib.hid (B3.out.trans (hb.mono B3.out.size))
      clear hb B3
      go_wp2_with fail
      refine (P5.out _).mono ?_
      rintro e w5 ⟨rfl, hb⟩
      have B5 := Lib.hid (B4.out.trans (hb.mono B4.out.size))
      clear hb B4
      go_wp2
      go_ret
      exact ⟨rfl, B5.out⟩
    · have d3 : decide ((5 : Int) ≤ (b.size : Int)) = false := by simp; omega
      have d4 : decide ((b.size : Int) ≤ 48) = true := by simp; omega
      clear XA XB
      go_wp2_with fail
      refine (P0.out _).mono ?_
      rintro e w4 ⟨rfl, hb⟩
      have B4 := Lib.hid (B3.out.trans (hb.mono B3.out.size))
      clear hb B3
      go_wp2_with fail
      refine (P5.out _).mono ?_
      rintro e w5 ⟨rfl, hb⟩
      have B5 := Lib.hid (B4.out.trans (hb.mono B4.out.size))
      clear hb B4
      go_wp2
      go_ret
      exact ⟨rfl, B5.out⟩
  · have d1 : decide ((13 : Int) ≤ (a.size : Int)) = false := by simp; omega
    have d2 : decide ((a.size : Int) ≤ 160) = true := by simp; omega
    rcases XB.out with ⟨rfl, b1, b2⟩ | ⟨rfl, b1⟩
    · have d3 : decide ((5 : Int) ≤ (b.size : Int)) = true := by simp; omega
      have d4 : decide ((b.size : Int) ≤ 48) = true := by simp; omega
      clear XA XB
      go_wp2_with fail
      refine (P0.out _).mono ?_
      rintro e w4 ⟨rfl, hb⟩
      have B4 := Lib.hid (B3.out.trans (hb.mono B3.out.size))
      clear hb B3
      go_wp2_with fail
      refine (P5.out _).mono ?_
      rintro e w5 ⟨rfl, hb⟩
      have B5 := Lib.hid (B4.out.trans (hb.mono B4.out.size))
      clear hb B4
      go_wp2
      go_ret
      exact ⟨rfl, B5.out⟩
    · have d3 : decide ((5 : Int) ≤ (b.size : Int)) = false := by simp; omega
      have d4 : decide ((b.size : Int) ≤ 48) = true := by simp; omega
      clear XA XB
      go_wp2_with fail
      refine (P0.out _).mono ?_
      rintro e w4 ⟨rfl, hb⟩
      have B4 := Lib.hid (B3.out.trans (hb.mono B3.out.size))
      clear hb B3
      go_wp2_with fail
      refine (P5.out _).mono ?_
      rintro e w5 ⟨rfl, hb⟩
      have B5 := Lib.hid (B4.out.trans (hb.mono B4.out.size))
      clear hb B4
      go_wp2
      go_ret
      exact ⟨rfl, B5.out⟩
end Go.Proofs.Ytkmbophbjgfacaa.Ino
