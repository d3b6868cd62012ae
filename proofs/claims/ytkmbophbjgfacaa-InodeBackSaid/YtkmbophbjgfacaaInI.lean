/- The walk of the law InodeBack: it answers true. -/
import Derived.Test.YtkmbophbjgfacaaInH
namespace Go.Proofs.Ytkmbophbjgfacaa.Ino
set_option linter.unusedVariables false
set_option linter.unusedSimpArgs false
open Go.ChangeShapes Go.WideShapes Go.ChangeAt Go.RowKit
open BigFrame
open Rg
open Pk (be num be_length num_be num_lt bs bs_size nB nE tN tR tE xB_size bytesLess_be)
open Ph (has tl tl_len nb)

theorem str_eq2 (x : ByteArray) : (x.toList == x.toList) = true ∧ (x.toList != x.toList) = false := ⟨beq_self_eq_true _, by rw [bne, beq_self_eq_true]; rfl⟩
set_option maxRecDepth 100000 in
set_option maxHeartbeats 8000000 in
theorem inodeBack_walk (w : World) (n0 : In) (hl : n0.lim) (k0 : Ky) (hk : k0.lim) (s : ByteArray) (hs : s.size ≤ maxLen) :
    Calls Try.prog 11 #[vI n0, vK k0, .string s] w fun e w' => e = .returned (.bool true) ∧ Below w.heap.size w w' := by
  have CI := Lib.hid (encode_in n0 hl)
  have CK := Lib.hid (key_in k0 hk)
  have CP := Lib.hid (prefix_in k0.K k0.I hk.1 hk.2.1)
  have CD := Lib.hid (decode_in s hs)
  have CQ := Lib.hid (parse_in s hs)
  have HIN := Lib.hid (fun h : okI n0 = false => chI_no h)
  have HIY := Lib.hid (fun h : okI n0 = true => (⟨(chI_yes h).1, (chI_yes h).2, by
    have z := (okI_size h).1
    have h2 := decode_in (wrI n0) (by rw [wrI_size n0 (by omega)]; unfold maxLen; omega)
    rw [(deI_back hl h).1, (deI_back hl h).2] at h2
    exact h2⟩ : chI n0 = 0 ∧ enI n0 = wrI n0 ∧ ∀ w, Calls Try.prog 28 #[.string (wrI n0)] w fun e w' => e = .returned (.tuple #[vI n0, .int .i64 0]) ∧ Below w.heap.size w w'))
  obtain ⟨P, hP⟩ : ∃ P, pfx k0.K k0.I = P := ⟨_, rfl⟩
  rw [hP] at CP
  have HKN := Lib.hid (fun h : okK k0 = false => chK_no h)
  have HKY := Lib.hid (fun h : okK k0 = true => (⟨(chK_yes h).1, (chK_yes h).2, by
      have z := (wrK_pfx h).2.2.2
      have h2 := parse_in (wrK k0) (by unfold maxLen; omega)
      rw [(deK_back hk h).1, (deK_back hk h).2] at h2
      exact h2, by rw [← hP, (pfx_ok h).2], by
      have h2 := (wrK_pfx h).2.1
      rw [hP] at h2
      rw [h2]; exact str_eq2 P, by have := (wrK_pfx h).2.2; omega⟩ : chK k0 = 0 ∧ enK k0 = wrK k0 ∧ (∀ w, Calls Try.prog 35 #[.string (wrK k0)] w fun e w' => e = .returned (.tuple #[vK k0, .int .i64 0]) ∧ Below w.heap.size w w') ∧ P.size = 5 ∧ ((((wrK k0).extract 0 5).toList == P.toList) = true ∧ (((wrK k0).extract 0 5).toList != P.toList) = false) ∧ 5 ≤ (wrK k0).size ∧ (wrK k0).size ≤ 29))
  have HDC : Hid ((deIE s = 0 ∧ ∀ w, Calls Try.prog 26 #[vI (deI s)] w fun e w' => e = .returned (.tuple #[.string s, .int .i64 0]) ∧ Below w.heap.size w w') ∨ (deIE s = 4 ∧ True)) := Lib.hid (by
    by_cases h : deIE s = 0
    · obtain ⟨h1, h2, h3⟩ := deI_ok h
      refine .inl ⟨h, ?_⟩
      have h4 := encode_in (deI s) h3
      rw [(chI_yes h1).1, (chI_yes h1).2, h2] at h4
      exact h4
    · refine .inr ⟨?_, trivial⟩
      unfold deIE at h ⊢
      split at h
      · exact absurd rfl h
      · rename_i h2; rw [if_neg h2])
  have HQC : Hid ((deKE s = 0 ∧ (∀ w, Calls Try.prog 33 #[vK (deK s)] w fun e w' => e = .returned (.tuple #[.string s, .int .i64 0]) ∧ Below w.heap.size w w') ∧ s.size ≤ 29) ∨ (deKE s = 4 ∧ True)) := Lib.hid (by
    by_cases h : deKE s = 0
    · obtain ⟨h1, h2, h3⟩ := deK_ok h
      refine .inl ⟨h, ?_, ?_⟩
      · have h4 := key_in (deK s) h3
        rw [(chK_yes h1).1, (chK_yes h1).2, h2] at h4
        exact h4
      · have := (wrK_pfx h1).2.2.2
        rwa [h2] at this
    · refine .inr ⟨?_, trivial⟩
      unfold deKE at h ⊢
      split at h
      · exact absurd rfl h
      · rename_i h2; rw [if_neg h2])
  have HSS := Lib.hid (str_eq2 s)
  have HEI := Lib.hid (fun w => (eq_inode n0 n0 w).trans (by rw [(eqI_iff n0 n0).2 rfl]))
  have HEK := Lib.hid (fun w => (eq_key k0 k0 w).trans (by rw [(eqK_iff k0 k0).2 rfl]))
  obtain ⟨y, hy⟩ : ∃ y, deIE s = y := ⟨_, rfl⟩
  obtain ⟨z, hz⟩ : ∃ y, deKE s = y := ⟨_, rfl⟩
  obtain ⟨d, hd⟩ : ∃ y, deI s = y := ⟨_, rfl⟩
  obtain ⟨j, hj⟩ : ∃ y, deK s = y := ⟨_, rfl⟩
  rw [hy, hd] at CD HDC
  rw [hz, hj] at CQ HQC
  obtain ⟨a, ha⟩ : ∃ a, enI n0 = a := ⟨_, rfl⟩
  obtain ⟨x, hx⟩ : ∃ a, chI n0 = a := ⟨_, rfl⟩
  obtain ⟨b, hb⟩ : ∃ a, enK k0 = a := ⟨_, rfl⟩
  obtain ⟨t, ht⟩ : ∃ a, chK k0 = a := ⟨_, rfl⟩
  obtain ⟨wi, hwi⟩ : ∃ a, wrI n0 = a := ⟨_, rfl⟩
  obtain ⟨wk, hwk⟩ : ∃ a, wrK k0 = a := ⟨_, rfl⟩
  rw [ha, hx] at CI HIN HIY
  rw [hb, ht] at CK HKN HKY
  rw [hwi] at HIY
  rw [hwk] at HKY
  clear hP hy hz hd hj ha hx hb ht hwi hwk hl hk
  obtain ⟨bi, hbi⟩ : ∃ q, okI n0 = q := ⟨_, rfl⟩
  obtain ⟨bk, hbk⟩ : ∃ q, okK k0 = q := ⟨_, rfl⟩
  rw [hbi] at HIN HIY
  rw [hbk] at HKN HKY
  clear hbi hbk
  obtain ⟨K, M, L, S, T⟩ := n0
  obtain ⟨K2, I, N, C⟩ := k0
  obtain ⟨DK, DM, DL, DS, DT⟩ := d
  obtain ⟨EK, EI, EN, EC⟩ := j
  unfold vI vK at *
  dsimp only at *
  unfold maxLen at hs
  have TB := Lib.hid (two_box w #[.int .u8 K, .int .u16 M, .int .u32 L, .int .u32 S, .string T] #[.int .u8 K2, .int .u32 I, .string N, .int .u32 C] 39 47)
  go_enter Try.func11, Try.ntmps11
  go_wp2_with fail
  change Calls _ _ _ ((w.alloc (.cells #[.int .u8 K, .int .u16 M, .int .u32 L, .int .u32 S, .string T] 39)).alloc (.cells #[.int .u8 K2, .int .u32 I, .string N, .int .u32 C] 47)) _
  generalize ((w.alloc (.cells #[.int .u8 K, .int .u16 M, .int .u32 L, .int .u32 S, .string T] 39)).alloc (.cells #[.int .u8 K2, .int .u32 I, .string N, .int .u32 C] 47)) = W at *
  refine (lives_in _).mono ?_
  rintro e w1 ⟨rfl, hb⟩
  have R1 := Lib.hid (row_bel TB.out.1 hb (by have := TB.out.2.2.2; omega))
  have Q1 := Lib.hid (row_bel TB.out.2.1 hb TB.out.2.2.2)
  have B1 := Lib.hid (TB.out.2.2.1.trans (hb.mono TB.out.2.2.1.size))
  have l1 : w.heap.size + 1 < w1.heap.size := Nat.lt_of_lt_of_le TB.out.2.2.2 hb.size
  clear hb TB
  go_wp2_with (refine wpList_load_row rfl 39 (.tmp 3) rfl w.heap.size rfl 39 #[.int .u8 K, .int .u16 M, .int .u32 L, .int .u32 S, .string T] (0, 0) _ R1.out Try.underlying39 rfl (by kernel_rfl) ?_)
  refine (CI.out _).mono ?_
  rintro e w2 ⟨rfl, hb⟩
  have R2 := Lib.hid (row_bel R1.out hb (by have := l1; omega))
  have Q2 := Lib.hid (row_bel Q1.out hb l1)
  have B2 := Lib.hid (B1.out.trans (hb.mono B1.out.size))
  have l2 := Nat.lt_of_lt_of_le l1 hb.size
  clear hb
  cases bi
  · have HC := Lib.hid (HIN.out rfl)
    rw [HC.out.1, HC.out.2]
    go_wp2_with (refine wpList_load_row rfl 47 (.tmp 4) rfl (w.heap.size + 1) rfl 47 #[.int .u8 K2, .int .u32 I, .string N, .int .u32 C] (0, 0) _ Q2.out Try.underlying47 rfl (by kernel_rfl) ?_)
    refine (CK.out _).mono ?_
    rintro e w3 ⟨rfl, hb⟩
    have R3 := Lib.hid (row_bel R2.out hb (by have := l2; omega))
    have Q3 := Lib.hid (row_bel Q2.out hb l2)
    have B3 := Lib.hid (B2.out.trans (hb.mono B2.out.size))
    have l3 := Nat.lt_of_lt_of_le l2 hb.size
    clear hb
    cases bk
    · have HD := Lib.hid (HKN.out rfl)
      rw [HD.out.1, HD.out.2]
      go_wp2_with fail
      refine (CD.out _).mono ?_
      rintro e w4 ⟨rfl, hb⟩
      have R4 := Lib.hid (row_bel R3.out hb (by have := l3; omega))
      have Q4 := Lib.hid (row_bel Q3.out hb l3)
      have B4 := Lib.hid (B3.out.trans (hb.mono B3.out.size))
      have l4 := Nat.lt_of_lt_of_le l3 hb.size
      clear hb
      have N5 := Lib.hid (new_row2 (old := #[.int .u8 0, .int .u16 0, .int .u32 0, .int .u32 0, .string ⟨#[]⟩]) (cs := #[.int .u8 DK, .int .u16 DM, .int .u32 DL, .int .u32 DS, .string DT]) (t := 39) R4.out)
      have M5 := Lib.hid (new_row2 (old := #[.int .u8 0, .int .u16 0, .int .u32 0, .int .u32 0, .string ⟨#[]⟩]) (cs := #[.int .u8 DK, .int .u16 DM, .int .u32 DL, .int .u32 DS, .string DT]) (t := 39) Q4.out)
      rcases HDC.out with ⟨y0, hd⟩ | ⟨y0, y1⟩
      · have HD3 := Lib.hid hd
        have s1 := HSS.out
        clear hd
        go_wp2_with (first
          | (refine wpList_store_row rfl 39 (.tmp 16) (.tmp 83) rfl w4.heap.size #[.int .u8 DK, .int .u16 DM, .int .u32 DL, .int .u32 DS, .string DT] rfl rfl 39 #[.int .u8 0, .int .u16 0, .int .u32 0, .int .u32 0, .string ⟨#[]⟩] (heap_alloc_new w4 _) (by kernel_rfl) rfl (row5 _ _ _ _ _) ?_; change wpList _ _ _ _ _ ((w4.alloc (.cells #[.int .u8 0, .int .u16 0, .int .u32 0, .int .u32 0, .string ⟨#[]⟩] 39)).setRow w4.heap.size #[.int .u8 DK, .int .u16 DM, .int .u32 DL, .int .u32 DS, .string DT]); generalize ((w4.alloc (.cells #[.int .u8 0, .int .u16 0, .int .u32 0, .int .u32 0, .string ⟨#[]⟩] 39)).setRow w4.heap.size #[.int .u8 DK, .int .u16 DM, .int .u32 DL, .int .u32 DS, .string DT]) = V5 at *)
          | (refine wpList_load_row rfl 39 (.tmp 16) rfl w4.heap.size rfl 39 #[.int .u8 DK, .int .u16 DM, .int .u32 DL, .int .u32 DS, .string DT] (0, 0) _ N5.out.2.1 Try.underlying39 rfl (by kernel_rfl) ?_))
        have R5 := Lib.hid N5.out.1
        have Q5 := Lib.hid M5.out.1
        have S5 := Lib.hid N5.out.2.1
        have B5 := Lib.hid (B4.out.trans (N5.out.2.2.1.mono B4.out.size))
        have l5 : w.heap.size + 1 < V5.heap.size := by have h1 := N5.out.2.2.2; have h2 := l4; omega
        refine (HD3.out _).mono ?_
        rintro e w6 ⟨rfl, hb⟩
        have R6 := Lib.hid (row_bel R5.out hb (by have := l5; omega))
        have Q6 := Lib.hid (row_bel Q5.out hb l5)
        have B6 := Lib.hid (B5.out.trans (hb.mono B5.out.size))
        have l6 := Nat.lt_of_lt_of_le l5 hb.size
        clear hb
        go_wp2_with fail
        clear y0
        refine (CQ.out _).mono ?_
        rintro e w7 ⟨rfl, hb⟩
        have R7 := Lib.hid (row_bel R6.out hb (by have := l6; omega))
        have Q7 := Lib.hid (row_bel Q6.out hb l6)
        have B7 := Lib.hid (B6.out.trans (hb.mono B6.out.size))
        have l7 := Nat.lt_of_lt_of_le l6 hb.size
        clear hb
        have N8 := Lib.hid (new_row2 (old := #[.int .u8 0, .int .u32 0, .string ⟨#[]⟩, .int .u32 0]) (cs := #[.int .u8 EK, .int .u32 EI, .string EN, .int .u32 EC]) (t := 47) R7.out)
        have M8 := Lib.hid (new_row2 (old := #[.int .u8 0, .int .u32 0, .string ⟨#[]⟩, .int .u32 0]) (cs := #[.int .u8 EK, .int .u32 EI, .string EN, .int .u32 EC]) (t := 47) Q7.out)
        rcases HQC.out with ⟨z0, hd, hz⟩ | ⟨z0, z1⟩
        · have HD4 := Lib.hid hd
          have s1 := HSS.out
          have d48 : decide ((s.size : Int) ≤ 48) = true := by
            rw [decide_eq_true_eq]; omega
          clear hd
          go_wp2_with (first
            | (refine wpList_store_row rfl 47 (.tmp 20) (.tmp 102) rfl w7.heap.size #[.int .u8 EK, .int .u32 EI, .string EN, .int .u32 EC] rfl rfl 47 #[.int .u8 0, .int .u32 0, .string ⟨#[]⟩, .int .u32 0] (heap_alloc_new w7 _) (by kernel_rfl) rfl (row4 _ _ _ _) ?_; change wpList _ _ _ _ _ ((w7.alloc (.cells #[.int .u8 0, .int .u32 0, .string ⟨#[]⟩, .int .u32 0] 47)).setRow w7.heap.size #[.int .u8 EK, .int .u32 EI, .string EN, .int .u32 EC]); generalize ((w7.alloc (.cells #[.int .u8 0, .int .u32 0, .string ⟨#[]⟩, .int .u32 0] 47)).setRow w7.heap.size #[.int .u8 EK, .int .u32 EI, .string EN, .int .u32 EC]) = V8 at *)
            | (refine wpList_load_row rfl 47 (.tmp 20) rfl w7.heap.size rfl 47 #[.int .u8 EK, .int .u32 EI, .string EN, .int .u32 EC] (0, 0) _ N8.out.2.1 Try.underlying47 rfl (by kernel_rfl) ?_))
          have R8 := Lib.hid N8.out.1
          have Q8 := Lib.hid M8.out.1
          have S8 := Lib.hid N8.out.2.1
          have B8 := Lib.hid (B7.out.trans (N8.out.2.2.1.mono B7.out.size))
          have l8 : w.heap.size + 1 < V8.heap.size := by have h1 := N8.out.2.2.2; have h2 := l7; omega
          refine (HD4.out _).mono ?_
          rintro e w9 ⟨rfl, hb⟩
          have R9 := Lib.hid (row_bel R8.out hb (by have := l8; omega))
          have Q9 := Lib.hid (row_bel Q8.out hb l8)
          have B9 := Lib.hid (B8.out.trans (hb.mono B8.out.size))
          have l9 := Nat.lt_of_lt_of_le l8 hb.size
          clear hb
          go_wp2
          go_ret
          exact ⟨rfl, B9.out⟩
        · skip
          go_wp2_with (refine wpList_store_row rfl 47 (.tmp 20) (.tmp 102) rfl w7.heap.size #[.int .u8 EK, .int .u32 EI, .string EN, .int .u32 EC] rfl rfl 47 #[.int .u8 0, .int .u32 0, .string ⟨#[]⟩, .int .u32 0] (heap_alloc_new w7 _) (by kernel_rfl) rfl (row4 _ _ _ _) ?_; change wpList _ _ _ _ _ ((w7.alloc (.cells #[.int .u8 0, .int .u32 0, .string ⟨#[]⟩, .int .u32 0] 47)).setRow w7.heap.size #[.int .u8 EK, .int .u32 EI, .string EN, .int .u32 EC]); generalize ((w7.alloc (.cells #[.int .u8 0, .int .u32 0, .string ⟨#[]⟩, .int .u32 0] 47)).setRow w7.heap.size #[.int .u8 EK, .int .u32 EI, .string EN, .int .u32 EC]) = V8 at *)
          have R8 := Lib.hid N8.out.1
          have Q8 := Lib.hid M8.out.1
          have S8 := Lib.hid N8.out.2.1
          have B8 := Lib.hid (B7.out.trans (N8.out.2.2.1.mono B7.out.size))
          have l8 : w.heap.size + 1 < V8.heap.size := by have h1 := N8.out.2.2.2; have h2 := l7; omega
          go_ret
          exact ⟨rfl, B8.out⟩
      · skip
        go_wp2_with (refine wpList_store_row rfl 39 (.tmp 16) (.tmp 83) rfl w4.heap.size #[.int .u8 DK, .int .u16 DM, .int .u32 DL, .int .u32 DS, .string DT] rfl rfl 39 #[.int .u8 0, .int .u16 0, .int .u32 0, .int .u32 0, .string ⟨#[]⟩] (heap_alloc_new w4 _) (by kernel_rfl) rfl (row5 _ _ _ _ _) ?_; change wpList _ _ _ _ _ ((w4.alloc (.cells #[.int .u8 0, .int .u16 0, .int .u32 0, .int .u32 0, .string ⟨#[]⟩] 39)).setRow w4.heap.size #[.int .u8 DK, .int .u16 DM, .int .u32 DL, .int .u32 DS, .string DT]); generalize ((w4.alloc (.cells #[.int .u8 0, .int .u16 0, .int .u32 0, .int .u32 0, .string ⟨#[]⟩] 39)).setRow w4.heap.size #[.int .u8 DK, .int .u16 DM, .int .u32 DL, .int .u32 DS, .string DT]) = V5 at *)
        have R5 := Lib.hid N5.out.1
        have Q5 := Lib.hid M5.out.1
        have S5 := Lib.hid N5.out.2.1
        have B5 := Lib.hid (B4.out.trans (N5.out.2.2.1.mono B4.out.size))
        have l5 : w.heap.size + 1 < V5.heap.size := by have h1 := N5.out.2.2.2; have h2 := l4; omega
        clear y0 y1
        refine (CQ.out _).mono ?_
        rintro e w10 ⟨rfl, hb⟩
        have R10 := Lib.hid (row_bel R5.out hb (by have := l5; omega))
        have Q10 := Lib.hid (row_bel Q5.out hb l5)
        have B10 := Lib.hid (B5.out.trans (hb.mono B5.out.size))
        have l10 := Nat.lt_of_lt_of_le l5 hb.size
        clear hb
        have N11 := Lib.hid (new_row2 (old := #[.int .u8 0, .int .u32 0, .string ⟨#[]⟩, .int .u32 0]) (cs := #[.int .u8 EK, .int .u32 EI, .string EN, .int .u32 EC]) (t := 47) R10.out)
        have M11 := Lib.hid (new_row2 (old := #[.int .u8 0, .int .u32 0, .string ⟨#[]⟩, .int .u32 0]) (cs := #[.int .u8 EK, .int .u32 EI, .string EN, .int .u32 EC]) (t := 47) Q10.out)
        rcases HQC.out with ⟨z0, hd, hz⟩ | ⟨z0, z1⟩
        · have HD4 := Lib.hid hd
          have s1 := HSS.out
          have d48 : decide ((s.size : Int) ≤ 48) = true := by
            rw [decide_eq_true_eq]; omega
          clear hd
          go_wp2_with (first
            | (refine wpList_store_row rfl 47 (.tmp 20) (.tmp 102) rfl w10.heap.size #[.int .u8 EK, .int .u32 EI, .string EN, .int .u32 EC] rfl rfl 47 #[.int .u8 0, .int .u32 0, .string ⟨#[]⟩, .int .u32 0] (heap_alloc_new w10 _) (by kernel_rfl) rfl (row4 _ _ _ _) ?_; change wpList _ _ _ _ _ ((w10.alloc (.cells #[.int .u8 0, .int .u32 0, .string ⟨#[]⟩, .int .u32 0] 47)).setRow w10.heap.size #[.int .u8 EK, .int .u32 EI, .string EN, .int .u32 EC]); generalize ((w10.alloc (.cells #[.int .u8 0, .int .u32 0, .string ⟨#[]⟩, .int .u32 0] 47)).setRow w10.heap.size #[.int .u8 EK, .int .u32 EI, .string EN, .int .u32 EC]) = V11 at *)
            | (refine wpList_load_row rfl 47 (.tmp 20) rfl w10.heap.size rfl 47 #[.int .u8 EK, .int .u32 EI, .string EN, .int .u32 EC] (0, 0) _ N11.out.2.1 Try.underlying47 rfl (by kernel_rfl) ?_))
          have R11 := Lib.hid N11.out.1
          have Q11 := Lib.hid M11.out.1
          have S11 := Lib.hid N11.out.2.1
          have B11 := Lib.hid (B10.out.trans (N11.out.2.2.1.mono B10.out.size))
          have l11 : w.heap.size + 1 < V11.heap.size := by have h1 := N11.out.2.2.2; have h2 := l10; omega
          refine (HD4.out _).mono ?_
          rintro e w12 ⟨rfl, hb⟩
          have R12 := Lib.hid (row_bel R11.out hb (by have := l11; omega))
          have Q12 := Lib.hid (row_bel Q11.out hb l11)
          have B12 := Lib.hid (B11.out.trans (hb.mono B11.out.size))
          have l12 := Nat.lt_of_lt_of_le l11 hb.size
          clear hb
          go_wp2
          go_ret
          exact ⟨rfl, B12.out⟩
        · skip
          go_wp2_with (refine wpList_store_row rfl 47 (.tmp 20) (.tmp 102) rfl w10.heap.size #[.int .u8 EK, .int .u32 EI, .string EN, .int .u32 EC] rfl rfl 47 #[.int .u8 0, .int .u32 0, .string ⟨#[]⟩, .int .u32 0] (heap_alloc_new w10 _) (by kernel_rfl) rfl (row4 _ _ _ _) ?_; change wpList _ _ _ _ _ ((w10.alloc (.cells #[.int .u8 0, .int .u32 0, .string ⟨#[]⟩, .int .u32 0] 47)).setRow w10.heap.size #[.int .u8 EK, .int .u32 EI, .string EN, .int .u32 EC]); generalize ((w10.alloc (.cells #[.int .u8 0, .int .u32 0, .string ⟨#[]⟩, .int .u32 0] 47)).setRow w10.heap.size #[.int .u8 EK, .int .u32 EI, .string EN, .int .u32 EC]) = V11 at *)
          have R11 := Lib.hid N11.out.1
          have Q11 := Lib.hid M11.out.1
          have S11 := Lib.hid N11.out.2.1
          have B11 := Lib.hid (B10.out.trans (N11.out.2.2.1.mono B10.out.size))
          have l11 : w.heap.size + 1 < V11.heap.size := by have h1 := N11.out.2.2.2; have h2 := l10; omega
          go_ret
          exact ⟨rfl, B11.out⟩
    · have HD := Lib.hid (HKY.out rfl)
      rw [HD.out.1, HD.out.2.1]
      have c0 : w3.cell? ⟨w.heap.size + 1, 0, none⟩ = some (.int .u8 K2) := (cell_of_row w3 (w.heap.size + 1) 0 #[.int .u8 K2, .int .u32 I, .string N, .int .u32 C] 47 (0, 0) Q3.out).trans rfl
      have c1 : w3.cell? ⟨w.heap.size + 1, 1, none⟩ = some (.int .u32 I) := (cell_of_row w3 (w.heap.size + 1) 1 #[.int .u8 K2, .int .u32 I, .string N, .int .u32 C] 47 (0, 0) Q3.out).trans rfl
      go_wp2_with fail
      refine (CP.out _).mono ?_
      rintro e w13 ⟨rfl, hb⟩
      have R13 := Lib.hid (row_bel R3.out hb (by have := l3; omega))
      have Q13 := Lib.hid (row_bel Q3.out hb l3)
      have B13 := Lib.hid (B3.out.trans (hb.mono B3.out.size))
      have l13 := Nat.lt_of_lt_of_le l3 hb.size
      clear hb
      clear c0 c1
      go_wp2_with fail
      refine (HD.out.2.2.1 _).mono ?_
      rintro e w14 ⟨rfl, hb⟩
      have R14 := Lib.hid (row_bel R13.out hb (by have := l13; omega))
      have Q14 := Lib.hid (row_bel Q13.out hb l13)
      have B14 := Lib.hid (B13.out.trans (hb.mono B13.out.size))
      have l14 := Nat.lt_of_lt_of_le l13 hb.size
      clear hb
      have N15 := Lib.hid (new_row2 (old := #[.int .u8 0, .int .u32 0, .string ⟨#[]⟩, .int .u32 0]) (cs := #[.int .u8 K2, .int .u32 I, .string N, .int .u32 C]) (t := 47) R14.out)
      have M15 := Lib.hid (new_row2 (old := #[.int .u8 0, .int .u32 0, .string ⟨#[]⟩, .int .u32 0]) (cs := #[.int .u8 K2, .int .u32 I, .string N, .int .u32 C]) (t := 47) Q14.out)
      have heq := HEK.out
      have hg := guardK
      have f1 := HD.out.2.2.2.1
      have f2 := HD.out.2.2.2.2.1
      have f3 := HD.out.2.2.2.2.2
      go_wp2_with (first
        | (refine wpList_store_row rfl 47 (.tmp 14) (.tmp 60) rfl w14.heap.size #[.int .u8 K2, .int .u32 I, .string N, .int .u32 C] rfl rfl 47 #[.int .u8 0, .int .u32 0, .string ⟨#[]⟩, .int .u32 0] (heap_alloc_new w14 _) (by kernel_rfl) rfl (row4 _ _ _ _) ?_; change wpList _ _ _ _ _ ((w14.alloc (.cells #[.int .u8 0, .int .u32 0, .string ⟨#[]⟩, .int .u32 0] 47)).setRow w14.heap.size #[.int .u8 K2, .int .u32 I, .string N, .int .u32 C]); generalize ((w14.alloc (.cells #[.int .u8 0, .int .u32 0, .string ⟨#[]⟩, .int .u32 0] 47)).setRow w14.heap.size #[.int .u8 K2, .int .u32 I, .string N, .int .u32 C]) = V15 at *)
        | (refine wpList_load_row rfl 47 (.tmp 14) rfl w14.heap.size rfl 47 #[.int .u8 K2, .int .u32 I, .string N, .int .u32 C] (0, 0) _ N15.out.2.1 Try.underlying47 rfl (by kernel_rfl) ?_)
        | (refine wpList_load_row rfl 47 (.tmp 4) rfl (w.heap.size + 1) rfl 47 #[.int .u8 K2, .int .u32 I, .string N, .int .u32 C] (0, 0) _ M15.out.1 Try.underlying47 rfl (by kernel_rfl) ?_))
      clear heq hg f1 f2 f3
      have R15 := Lib.hid N15.out.1
      have Q15 := Lib.hid M15.out.1
      have S15 := Lib.hid N15.out.2.1
      have B15 := Lib.hid (B14.out.trans (N15.out.2.2.1.mono B14.out.size))
      have l15 : w.heap.size + 1 < V15.heap.size := by have h1 := N15.out.2.2.2; have h2 := l14; omega
      refine (CD.out _).mono ?_
      rintro e w16 ⟨rfl, hb⟩
      have R16 := Lib.hid (row_bel R15.out hb (by have := l15; omega))
      have Q16 := Lib.hid (row_bel Q15.out hb l15)
      have B16 := Lib.hid (B15.out.trans (hb.mono B15.out.size))
      have l16 := Nat.lt_of_lt_of_le l15 hb.size
      clear hb
      have N17 := Lib.hid (new_row2 (old := #[.int .u8 0, .int .u16 0, .int .u32 0, .int .u32 0, .string ⟨#[]⟩]) (cs := #[.int .u8 DK, .int .u16 DM, .int .u32 DL, .int .u32 DS, .string DT]) (t := 39) R16.out)
      have M17 := Lib.hid (new_row2 (old := #[.int .u8 0, .int .u16 0, .int .u32 0, .int .u32 0, .string ⟨#[]⟩]) (cs := #[.int .u8 DK, .int .u16 DM, .int .u32 DL, .int .u32 DS, .string DT]) (t := 39) Q16.out)
      rcases HDC.out with ⟨y0, hd⟩ | ⟨y0, y1⟩
      · have HD3 := Lib.hid hd
        have s1 := HSS.out
        clear hd
        go_wp2_with (first
          | (refine wpList_store_row rfl 39 (.tmp 16) (.tmp 83) rfl w16.heap.size #[.int .u8 DK, .int .u16 DM, .int .u32 DL, .int .u32 DS, .string DT] rfl rfl 39 #[.int .u8 0, .int .u16 0, .int .u32 0, .int .u32 0, .string ⟨#[]⟩] (heap_alloc_new w16 _) (by kernel_rfl) rfl (row5 _ _ _ _ _) ?_; change wpList _ _ _ _ _ ((w16.alloc (.cells #[.int .u8 0, .int .u16 0, .int .u32 0, .int .u32 0, .string ⟨#[]⟩] 39)).setRow w16.heap.size #[.int .u8 DK, .int .u16 DM, .int .u32 DL, .int .u32 DS, .string DT]); generalize ((w16.alloc (.cells #[.int .u8 0, .int .u16 0, .int .u32 0, .int .u32 0, .string ⟨#[]⟩] 39)).setRow w16.heap.size #[.int .u8 DK, .int .u16 DM, .int .u32 DL, .int .u32 DS, .string DT]) = V17 at *)
          | (refine wpList_load_row rfl 39 (.tmp 16) rfl w16.heap.size rfl 39 #[.int .u8 DK, .int .u16 DM, .int .u32 DL, .int .u32 DS, .string DT] (0, 0) _ N17.out.2.1 Try.underlying39 rfl (by kernel_rfl) ?_))
        have R17 := Lib.hid N17.out.1
        have Q17 := Lib.hid M17.out.1
        have S17 := Lib.hid N17.out.2.1
        have B17 := Lib.hid (B16.out.trans (N17.out.2.2.1.mono B16.out.size))
        have l17 : w.heap.size + 1 < V17.heap.size := by have h1 := N17.out.2.2.2; have h2 := l16; omega
        refine (HD3.out _).mono ?_
        rintro e w18 ⟨rfl, hb⟩
        have R18 := Lib.hid (row_bel R17.out hb (by have := l17; omega))
        have Q18 := Lib.hid (row_bel Q17.out hb l17)
        have B18 := Lib.hid (B17.out.trans (hb.mono B17.out.size))
        have l18 := Nat.lt_of_lt_of_le l17 hb.size
        clear hb
        go_wp2_with fail
        clear y0
        refine (CQ.out _).mono ?_
        rintro e w19 ⟨rfl, hb⟩
        have R19 := Lib.hid (row_bel R18.out hb (by have := l18; omega))
        have Q19 := Lib.hid (row_bel Q18.out hb l18)
        have B19 := Lib.hid (B18.out.trans (hb.mono B18.out.size))
        have l19 := Nat.lt_of_lt_of_le l18 hb.size
        clear hb
        have N20 := Lib.hid (new_row2 (old := #[.int .u8 0, .int .u32 0, .string ⟨#[]⟩, .int .u32 0]) (cs := #[.int .u8 EK, .int .u32 EI, .string EN, .int .u32 EC]) (t := 47) R19.out)
        have M20 := Lib.hid (new_row2 (old := #[.int .u8 0, .int .u32 0, .string ⟨#[]⟩, .int .u32 0]) (cs := #[.int .u8 EK, .int .u32 EI, .string EN, .int .u32 EC]) (t := 47) Q19.out)
        rcases HQC.out with ⟨z0, hd, hz⟩ | ⟨z0, z1⟩
        · have HD4 := Lib.hid hd
          have s1 := HSS.out
          have d48 : decide ((s.size : Int) ≤ 48) = true := by
            rw [decide_eq_true_eq]; omega
          clear hd
          go_wp2_with (first
            | (refine wpList_store_row rfl 47 (.tmp 20) (.tmp 102) rfl w19.heap.size #[.int .u8 EK, .int .u32 EI, .string EN, .int .u32 EC] rfl rfl 47 #[.int .u8 0, .int .u32 0, .string ⟨#[]⟩, .int .u32 0] (heap_alloc_new w19 _) (by kernel_rfl) rfl (row4 _ _ _ _) ?_; change wpList _ _ _ _ _ ((w19.alloc (.cells #[.int .u8 0, .int .u32 0, .string ⟨#[]⟩, .int .u32 0] 47)).setRow w19.heap.size #[.int .u8 EK, .int .u32 EI, .string EN, .int .u32 EC]); generalize ((w19.alloc (.cells #[.int .u8 0, .int .u32 0, .string ⟨#[]⟩, .int .u32 0] 47)).setRow w19.heap.size #[.int .u8 EK, .int .u32 EI, .string EN, .int .u32 EC]) = V20 at *)
            | (refine wpList_load_row rfl 47 (.tmp 20) rfl w19.heap.size rfl 47 #[.int .u8 EK, .int .u32 EI, .string EN, .int .u32 EC] (0, 0) _ N20.out.2.1 Try.underlying47 rfl (by kernel_rfl) ?_))
          have R20 := Lib.hid N20.out.1
          have Q20 := Lib.hid M20.out.1
          have S20 := Lib.hid N20.out.2.1
          have B20 := Lib.hid (B19.out.trans (N20.out.2.2.1.mono B19.out.size))
          have l20 : w.heap.size + 1 < V20.heap.size := by have h1 := N20.out.2.2.2; have h2 := l19; omega
          refine (HD4.out _).mono ?_
          rintro e w21 ⟨rfl, hb⟩
          have R21 := Lib.hid (row_bel R20.out hb (by have := l20; omega))
          have Q21 := Lib.hid (row_bel Q20.out hb l20)
          have B21 := Lib.hid (B20.out.trans (hb.mono B20.out.size))
          have l21 := Nat.lt_of_lt_of_le l20 hb.size
          clear hb
          go_wp2
          go_ret
          exact ⟨rfl, B21.out⟩
        · skip
          go_wp2_with (refine wpList_store_row rfl 47 (.tmp 20) (.tmp 102) rfl w19.heap.size #[.int .u8 EK, .int .u32 EI, .string EN, .int .u32 EC] rfl rfl 47 #[.int .u8 0, .int .u32 0, .string ⟨#[]⟩, .int .u32 0] (heap_alloc_new w19 _) (by kernel_rfl) rfl (row4 _ _ _ _) ?_; change wpList _ _ _ _ _ ((w19.alloc (.cells #[.int .u8 0, .int .u32 0, .string ⟨#[]⟩, .int .u32 0] 47)).setRow w19.heap.size #[.int .u8 EK, .int .u32 EI, .string EN, .int .u32 EC]); generalize ((w19.alloc (.cells #[.int .u8 0, .int .u32 0, .string ⟨#[]⟩, .int .u32 0] 47)).setRow w19.heap.size #[.int .u8 EK, .int .u32 EI, .string EN, .int .u32 EC]) = V20 at *)
          have R20 := Lib.hid N20.out.1
          have Q20 := Lib.hid M20.out.1
          have S20 := Lib.hid N20.out.2.1
          have B20 := Lib.hid (B19.out.trans (N20.out.2.2.1.mono B19.out.size))
          have l20 : w.heap.size + 1 < V20.heap.size := by have h1 := N20.out.2.2.2; have h2 := l19; omega
          go_ret
          exact ⟨rfl, B20.out⟩
      · skip
        go_wp2_with (refine wpList_store_row rfl 39 (.tmp 16) (.tmp 83) rfl w16.heap.size #[.int .u8 DK, .int .u16 DM, .int .u32 DL, .int .u32 DS, .string DT] rfl rfl 39 #[.int .u8 0, .int .u16 0, .int .u32 0, .int .u32 0, .string ⟨#[]⟩] (heap_alloc_new w16 _) (by kernel_rfl) rfl (row5 _ _ _ _ _) ?_; change wpList _ _ _ _ _ ((w16.alloc (.cells #[.int .u8 0, .int .u16 0, .int .u32 0, .int .u32 0, .string ⟨#[]⟩] 39)).setRow w16.heap.size #[.int .u8 DK, .int .u16 DM, .int .u32 DL, .int .u32 DS, .string DT]); generalize ((w16.alloc (.cells #[.int .u8 0, .int .u16 0, .int .u32 0, .int .u32 0, .string ⟨#[]⟩] 39)).setRow w16.heap.size #[.int .u8 DK, .int .u16 DM, .int .u32 DL, .int .u32 DS, .string DT]) = V17 at *)
        have R17 := Lib.hid N17.out.1
        have Q17 := Lib.hid M17.out.1
        have S17 := Lib.hid N17.out.2.1
        have B17 := Lib.hid (B16.out.trans (N17.out.2.2.1.mono B16.out.size))
        have l17 : w.heap.size + 1 < V17.heap.size := by have h1 := N17.out.2.2.2; have h2 := l16; omega
        clear y0 y1
        refine (CQ.out _).mono ?_
        rintro e w22 ⟨rfl, hb⟩
        have R22 := Lib.hid (row_bel R17.out hb (by have := l17; omega))
        have Q22 := Lib.hid (row_bel Q17.out hb l17)
        have B22 := Lib.hid (B17.out.trans (hb.mono B17.out.size))
        have l22 := Nat.lt_of_lt_of_le l17 hb.size
        clear hb
        have N23 := Lib.hid (new_row2 (old := #[.int .u8 0, .int .u32 0, .string ⟨#[]⟩, .int .u32 0]) (cs := #[.int .u8 EK, .int .u32 EI, .string EN, .int .u32 EC]) (t := 47) R22.out)
        have M23 := Lib.hid (new_row2 (old := #[.int .u8 0, .int .u32 0, .string ⟨#[]⟩, .int .u32 0]) (cs := #[.int .u8 EK, .int .u32 EI, .string EN, .int .u32 EC]) (t := 47) Q22.out)
        rcases HQC.out with ⟨z0, hd, hz⟩ | ⟨z0, z1⟩
        · have HD4 := Lib.hid hd
          have s1 := HSS.out
          have d48 : decide ((s.size : Int) ≤ 48) = true := by
            rw [decide_eq_true_eq]; omega
          clear hd
          go_wp2_with (first
            | (refine wpList_store_row rfl 47 (.tmp 20) (.tmp 102) rfl w22.heap.size #[.int .u8 EK, .int .u32 EI, .string EN, .int .u32 EC] rfl rfl 47 #[.int .u8 0, .int .u32 0, .string ⟨#[]⟩, .int .u32 0] (heap_alloc_new w22 _) (by kernel_rfl) rfl (row4 _ _ _ _) ?_; change wpList _ _ _ _ _ ((w22.alloc (.cells #[.int .u8 0, .int .u32 0, .string ⟨#[]⟩, .int .u32 0] 47)).setRow w22.heap.size #[.int .u8 EK, .int .u32 EI, .string EN, .int .u32 EC]); generalize ((w22.alloc (.cells #[.int .u8 0, .int .u32 0, .string ⟨#[]⟩, .int .u32 0] 47)).setRow w22.heap.size #[.int .u8 EK, .int .u32 EI, .string EN, .int .u32 EC]) = V23 at *)
            | (refine wpList_load_row rfl 47 (.tmp 20) rfl w22.heap.size rfl 47 #[.int .u8 EK, .int .u32 EI, .string EN, .int .u32 EC] (0, 0) _ N23.out.2.1 Try.underlying47 rfl (by kernel_rfl) ?_))
          have R23 := Lib.hid N23.out.1
          have Q23 := Lib.hid M23.out.1
          have S23 := Lib.hid N23.out.2.1
          have B23 := Lib.hid (B22.out.trans (N23.out.2.2.1.mono B22.out.size))
          have l23 : w.heap.size + 1 < V23.heap.size := by have h1 := N23.out.2.2.2; have h2 := l22; omega
          refine (HD4.out _).mono ?_
          rintro e w24 ⟨rfl, hb⟩
          have R24 := Lib.hid (row_bel R23.out hb (by have := l23; omega))
          have Q24 := Lib.hid (row_bel Q23.out hb l23)
          have B24 := Lib.hid (B23.out.trans (hb.mono B23.out.size))
          have l24 := Nat.lt_of_lt_of_le l23 hb.size
          clear hb
          go_wp2
          go_ret
          exact ⟨rfl, B24.out⟩
        · skip
          go_wp2_with (refine wpList_store_row rfl 47 (.tmp 20) (.tmp 102) rfl w22.heap.size #[.int .u8 EK, .int .u32 EI, .string EN, .int .u32 EC] rfl rfl 47 #[.int .u8 0, .int .u32 0, .string ⟨#[]⟩, .int .u32 0] (heap_alloc_new w22 _) (by kernel_rfl) rfl (row4 _ _ _ _) ?_; change wpList _ _ _ _ _ ((w22.alloc (.cells #[.int .u8 0, .int .u32 0, .string ⟨#[]⟩, .int .u32 0] 47)).setRow w22.heap.size #[.int .u8 EK, .int .u32 EI, .string EN, .int .u32 EC]); generalize ((w22.alloc (.cells #[.int .u8 0, .int .u32 0, .string ⟨#[]⟩, .int .u32 0] 47)).setRow w22.heap.size #[.int .u8 EK, .int .u32 EI, .string EN, .int .u32 EC]) = V23 at *)
          have R23 := Lib.hid N23.out.1
          have Q23 := Lib.hid M23.out.1
          have S23 := Lib.hid N23.out.2.1
          have B23 := Lib.hid (B22.out.trans (N23.out.2.2.1.mono B22.out.size))
          have l23 : w.heap.size + 1 < V23.heap.size := by have h1 := N23.out.2.2.2; have h2 := l22; omega
          go_ret
          exact ⟨rfl, B23.out⟩
  · have HC := Lib.hid (HIY.out rfl)
    rw [HC.out.1, HC.out.2.1]
    go_wp2_with fail
    refine (HC.out.2.2 _).mono ?_
    rintro e w25 ⟨rfl, hb⟩
    have R25 := Lib.hid (row_bel R2.out hb (by have := l2; omega))
    have Q25 := Lib.hid (row_bel Q2.out hb l2)
    have B25 := Lib.hid (B2.out.trans (hb.mono B2.out.size))
    have l25 := Nat.lt_of_lt_of_le l2 hb.size
    clear hb
    have N26 := Lib.hid (new_row2 (old := #[.int .u8 0, .int .u16 0, .int .u32 0, .int .u32 0, .string ⟨#[]⟩]) (cs := #[.int .u8 K, .int .u16 M, .int .u32 L, .int .u32 S, .string T]) (t := 39) R25.out)
    have M26 := Lib.hid (new_row2 (old := #[.int .u8 0, .int .u16 0, .int .u32 0, .int .u32 0, .string ⟨#[]⟩]) (cs := #[.int .u8 K, .int .u16 M, .int .u32 L, .int .u32 S, .string T]) (t := 39) Q25.out)
    have heq := HEI.out
    have hg := guardI
    go_wp2_with (first
      | (refine wpList_store_row rfl 39 (.tmp 9) (.tmp 36) rfl w25.heap.size #[.int .u8 K, .int .u16 M, .int .u32 L, .int .u32 S, .string T] rfl rfl 39 #[.int .u8 0, .int .u16 0, .int .u32 0, .int .u32 0, .string ⟨#[]⟩] (heap_alloc_new w25 _) (by kernel_rfl) rfl (row5 _ _ _ _ _) ?_; change wpList _ _ _ _ _ ((w25.alloc (.cells #[.int .u8 0, .int .u16 0, .int .u32 0, .int .u32 0, .string ⟨#[]⟩] 39)).setRow w25.heap.size #[.int .u8 K, .int .u16 M, .int .u32 L, .int .u32 S, .string T]); generalize ((w25.alloc (.cells #[.int .u8 0, .int .u16 0, .int .u32 0, .int .u32 0, .string ⟨#[]⟩] 39)).setRow w25.heap.size #[.int .u8 K, .int .u16 M, .int .u32 L, .int .u32 S, .string T]) = V26 at *)
      | (refine wpList_load_row rfl 39 (.tmp 9) rfl w25.heap.size rfl 39 #[.int .u8 K, .int .u16 M, .int .u32 L, .int .u32 S, .string T] (0, 0) _ N26.out.2.1 Try.underlying39 rfl (by kernel_rfl) ?_)
      | (refine wpList_load_row rfl 39 (.tmp 3) rfl w.heap.size rfl 39 #[.int .u8 K, .int .u16 M, .int .u32 L, .int .u32 S, .string T] (0, 0) _ N26.out.1 Try.underlying39 rfl (by kernel_rfl) ?_)
      | (refine wpList_load_row rfl 47 (.tmp 4) rfl (w.heap.size + 1) rfl 47 #[.int .u8 K2, .int .u32 I, .string N, .int .u32 C] (0, 0) _ M26.out.1 Try.underlying47 rfl (by kernel_rfl) ?_))
    clear heq hg
    have R26 := Lib.hid N26.out.1
    have Q26 := Lib.hid M26.out.1
    have S26 := Lib.hid N26.out.2.1
    have B26 := Lib.hid (B25.out.trans (N26.out.2.2.1.mono B25.out.size))
    have l26 : w.heap.size + 1 < V26.heap.size := by have h1 := N26.out.2.2.2; have h2 := l25; omega
    refine (CK.out _).mono ?_
    rintro e w27 ⟨rfl, hb⟩
    have R27 := Lib.hid (row_bel R26.out hb (by have := l26; omega))
    have Q27 := Lib.hid (row_bel Q26.out hb l26)
    have B27 := Lib.hid (B26.out.trans (hb.mono B26.out.size))
    have l27 := Nat.lt_of_lt_of_le l26 hb.size
    clear hb
    cases bk
    · have HD := Lib.hid (HKN.out rfl)
      rw [HD.out.1, HD.out.2]
      go_wp2_with fail
      refine (CD.out _).mono ?_
      rintro e w28 ⟨rfl, hb⟩
      have R28 := Lib.hid (row_bel R27.out hb (by have := l27; omega))
      have Q28 := Lib.hid (row_bel Q27.out hb l27)
      have B28 := Lib.hid (B27.out.trans (hb.mono B27.out.size))
      have l28 := Nat.lt_of_lt_of_le l27 hb.size
      clear hb
      have N29 := Lib.hid (new_row2 (old := #[.int .u8 0, .int .u16 0, .int .u32 0, .int .u32 0, .string ⟨#[]⟩]) (cs := #[.int .u8 DK, .int .u16 DM, .int .u32 DL, .int .u32 DS, .string DT]) (t := 39) R28.out)
      have M29 := Lib.hid (new_row2 (old := #[.int .u8 0, .int .u16 0, .int .u32 0, .int .u32 0, .string ⟨#[]⟩]) (cs := #[.int .u8 DK, .int .u16 DM, .int .u32 DL, .int .u32 DS, .string DT]) (t := 39) Q28.out)
      rcases HDC.out with ⟨y0, hd⟩ | ⟨y0, y1⟩
      · have HD3 := Lib.hid hd
        have s1 := HSS.out
        clear hd
        go_wp2_with (first
          | (refine wpList_store_row rfl 39 (.tmp 16) (.tmp 83) rfl w28.heap.size #[.int .u8 DK, .int .u16 DM, .int .u32 DL, .int .u32 DS, .string DT] rfl rfl 39 #[.int .u8 0, .int .u16 0, .int .u32 0, .int .u32 0, .string ⟨#[]⟩] (heap_alloc_new w28 _) (by kernel_rfl) rfl (row5 _ _ _ _ _) ?_; change wpList _ _ _ _ _ ((w28.alloc (.cells #[.int .u8 0, .int .u16 0, .int .u32 0, .int .u32 0, .string ⟨#[]⟩] 39)).setRow w28.heap.size #[.int .u8 DK, .int .u16 DM, .int .u32 DL, .int .u32 DS, .string DT]); generalize ((w28.alloc (.cells #[.int .u8 0, .int .u16 0, .int .u32 0, .int .u32 0, .string ⟨#[]⟩] 39)).setRow w28.heap.size #[.int .u8 DK, .int .u16 DM, .int .u32 DL, .int .u32 DS, .string DT]) = V29 at *)
          | (refine wpList_load_row rfl 39 (.tmp 16) rfl w28.heap.size rfl 39 #[.int .u8 DK, .int .u16 DM, .int .u32 DL, .int .u32 DS, .string DT] (0, 0) _ N29.out.2.1 Try.underlying39 rfl (by kernel_rfl) ?_))
        have R29 := Lib.hid N29.out.1
        have Q29 := Lib.hid M29.out.1
        have S29 := Lib.hid N29.out.2.1
        have B29 := Lib.hid (B28.out.trans (N29.out.2.2.1.mono B28.out.size))
        have l29 : w.heap.size + 1 < V29.heap.size := by have h1 := N29.out.2.2.2; have h2 := l28; omega
        refine (HD3.out _).mono ?_
        rintro e w30 ⟨rfl, hb⟩
        have R30 := Lib.hid (row_bel R29.out hb (by have := l29; omega))
        have Q30 := Lib.hid (row_bel Q29.out hb l29)
        have B30 := Lib.hid (B29.out.trans (hb.mono B29.out.size))
        have l30 := Nat.lt_of_lt_of_le l29 hb.size
        clear hb
        go_wp2_with fail
        clear y0
        refine (CQ.out _).mono ?_
        rintro e w31 ⟨rfl, hb⟩
        have R31 := Lib.hid (row_bel R30.out hb (by have := l30; omega))
        have Q31 := Lib.hid (row_bel Q30.out hb l30)
        have B31 := Lib.hid (B30.out.trans (hb.mono B30.out.size))
        have l31 := Nat.lt_of_lt_of_le l30 hb.size
        clear hb
        have N32 := Lib.hid (new_row2 (old := #[.int .u8 0, .int .u32 0, .string ⟨#[]⟩, .int .u32 0]) (cs := #[.int .u8 EK, .int .u32 EI, .string EN, .int .u32 EC]) (t := 47) R31.out)
        have M32 := Lib.hid (new_row2 (old := #[.int .u8 0, .int .u32 0, .string ⟨#[]⟩, .int .u32 0]) (cs := #[.int .u8 EK, .int .u32 EI, .string EN, .int .u32 EC]) (t := 47) Q31.out)
        rcases HQC.out with ⟨z0, hd, hz⟩ | ⟨z0, z1⟩
        · have HD4 := Lib.hid hd
          have s1 := HSS.out
          have d48 : decide ((s.size : Int) ≤ 48) = true := by
            rw [decide_eq_true_eq]; omega
          clear hd
          go_wp2_with (first
            | (refine wpList_store_row rfl 47 (.tmp 20) (.tmp 102) rfl w31.heap.size #[.int .u8 EK, .int .u32 EI, .string EN, .int .u32 EC] rfl rfl 47 #[.int .u8 0, .int .u32 0, .string ⟨#[]⟩, .int .u32 0] (heap_alloc_new w31 _) (by kernel_rfl) rfl (row4 _ _ _ _) ?_; change wpList _ _ _ _ _ ((w31.alloc (.cells #[.int .u8 0, .int .u32 0, .string ⟨#[]⟩, .int .u32 0] 47)).setRow w31.heap.size #[.int .u8 EK, .int .u32 EI, .string EN, .int .u32 EC]); generalize ((w31.alloc (.cells #[.int .u8 0, .int .u32 0, .string ⟨#[]⟩, .int .u32 0] 47)).setRow w31.heap.size #[.int .u8 EK, .int .u32 EI, .string EN, .int .u32 EC]) = V32 at *)
            | (refine wpList_load_row rfl 47 (.tmp 20) rfl w31.heap.size rfl 47 #[.int .u8 EK, .int .u32 EI, .string EN, .int .u32 EC] (0, 0) _ N32.out.2.1 Try.underlying47 rfl (by kernel_rfl) ?_))
          have R32 := Lib.hid N32.out.1
          have Q32 := Lib.hid M32.out.1
          have S32 := Lib.hid N32.out.2.1
          have B32 := Lib.hid (B31.out.trans (N32.out.2.2.1.mono B31.out.size))
          have l32 : w.heap.size + 1 < V32.heap.size := by have h1 := N32.out.2.2.2; have h2 := l31; omega
          refine (HD4.out _).mono ?_
          rintro e w33 ⟨rfl, hb⟩
          have R33 := Lib.hid (row_bel R32.out hb (by have := l32; omega))
          have Q33 := Lib.hid (row_bel Q32.out hb l32)
          have B33 := Lib.hid (B32.out.trans (hb.mono B32.out.size))
          have l33 := Nat.lt_of_lt_of_le l32 hb.size
          clear hb
          go_wp2
          go_ret
          exact ⟨rfl, B33.out⟩
        · skip
          go_wp2_with (refine wpList_store_row rfl 47 (.tmp 20) (.tmp 102) rfl w31.heap.size #[.int .u8 EK, .int .u32 EI, .string EN, .int .u32 EC] rfl rfl 47 #[.int .u8 0, .int .u32 0, .string ⟨#[]⟩, .int .u32 0] (heap_alloc_new w31 _) (by kernel_rfl) rfl (row4 _ _ _ _) ?_; change wpList _ _ _ _ _ ((w31.alloc (.cells #[.int .u8 0, .int .u32 0, .string ⟨#[]⟩, .int .u32 0] 47)).setRow w31.heap.size #[.int .u8 EK, .int .u32 EI, .string EN, .int .u32 EC]); generalize ((w31.alloc (.cells #[.int .u8 0, .int .u32 0, .string ⟨#[]⟩, .int .u32 0] 47)).setRow w31.heap.size #[.int .u8 EK, .int .u32 EI, .string EN, .int .u32 EC]) = V32 at *)
          have R32 := Lib.hid N32.out.1
          have Q32 := Lib.hid M32.out.1
          have S32 := Lib.hid N32.out.2.1
          have B32 := Lib.hid (B31.out.trans (N32.out.2.2.1.mono B31.out.size))
          have l32 : w.heap.size + 1 < V32.heap.size := by have h1 := N32.out.2.2.2; have h2 := l31; omega
          go_ret
          exact ⟨rfl, B32.out⟩
      · skip
        go_wp2_with (refine wpList_store_row rfl 39 (.tmp 16) (.tmp 83) rfl w28.heap.size #[.int .u8 DK, .int .u16 DM, .int .u32 DL, .int .u32 DS, .string DT] rfl rfl 39 #[.int .u8 0, .int .u16 0, .int .u32 0, .int .u32 0, .string ⟨#[]⟩] (heap_alloc_new w28 _) (by kernel_rfl) rfl (row5 _ _ _ _ _) ?_; change wpList _ _ _ _ _ ((w28.alloc (.cells #[.int .u8 0, .int .u16 0, .int .u32 0, .int .u32 0, .string ⟨#[]⟩] 39)).setRow w28.heap.size #[.int .u8 DK, .int .u16 DM, .int .u32 DL, .int .u32 DS, .string DT]); generalize ((w28.alloc (.cells #[.int .u8 0, .int .u16 0, .int .u32 0, .int .u32 0, .string ⟨#[]⟩] 39)).setRow w28.heap.size #[.int .u8 DK, .int .u16 DM, .int .u32 DL, .int .u32 DS, .string DT]) = V29 at *)
        have R29 := Lib.hid N29.out.1
        have Q29 := Lib.hid M29.out.1
        have S29 := Lib.hid N29.out.2.1
        have B29 := Lib.hid (B28.out.trans (N29.out.2.2.1.mono B28.out.size))
        have l29 : w.heap.size + 1 < V29.heap.size := by have h1 := N29.out.2.2.2; have h2 := l28; omega
        clear y0 y1
        refine (CQ.out _).mono ?_
        rintro e w34 ⟨rfl, hb⟩
        have R34 := Lib.hid (row_bel R29.out hb (by have := l29; omega))
        have Q34 := Lib.hid (row_bel Q29.out hb l29)
        have B34 := Lib.hid (B29.out.trans (hb.mono B29.out.size))
        have l34 := Nat.lt_of_lt_of_le l29 hb.size
        clear hb
        have N35 := Lib.hid (new_row2 (old := #[.int .u8 0, .int .u32 0, .string ⟨#[]⟩, .int .u32 0]) (cs := #[.int .u8 EK, .int .u32 EI, .string EN, .int .u32 EC]) (t := 47) R34.out)
        have M35 := Lib.hid (new_row2 (old := #[.int .u8 0, .int .u32 0, .string ⟨#[]⟩, .int .u32 0]) (cs := #[.int .u8 EK, .int .u32 EI, .string EN, .int .u32 EC]) (t := 47) Q34.out)
        rcases HQC.out with ⟨z0, hd, hz⟩ | ⟨z0, z1⟩
        · have HD4 := Lib.hid hd
          have s1 := HSS.out
          have d48 : decide ((s.size : Int) ≤ 48) = true := by
            rw [decide_eq_true_eq]; omega
          clear hd
          go_wp2_with (first
            | (refine wpList_store_row rfl 47 (.tmp 20) (.tmp 102) rfl w34.heap.size #[.int .u8 EK, .int .u32 EI, .string EN, .int .u32 EC] rfl rfl 47 #[.int .u8 0, .int .u32 0, .string ⟨#[]⟩, .int .u32 0] (heap_alloc_new w34 _) (by kernel_rfl) rfl (row4 _ _ _ _) ?_; change wpList _ _ _ _ _ ((w34.alloc (.cells #[.int .u8 0, .int .u32 0, .string ⟨#[]⟩, .int .u32 0] 47)).setRow w34.heap.size #[.int .u8 EK, .int .u32 EI, .string EN, .int .u32 EC]); generalize ((w34.alloc (.cells #[.int .u8 0, .int .u32 0, .string ⟨#[]⟩, .int .u32 0] 47)).setRow w34.heap.size #[.int .u8 EK, .int .u32 EI, .string EN, .int .u32 EC]) = V35 at *)
            | (refine wpList_load_row rfl 47 (.tmp 20) rfl w34.heap.size rfl 47 #[.int .u8 EK, .int .u32 EI, .string EN, .int .u32 EC] (0, 0) _ N35.out.2.1 Try.underlying47 rfl (by kernel_rfl) ?_))
          have R35 := Lib.hid N35.out.1
          have Q35 := Lib.hid M35.out.1
          have S35 := Lib.hid N35.out.2.1
          have B35 := Lib.hid (B34.out.trans (N35.out.2.2.1.mono B34.out.size))
          have l35 : w.heap.size + 1 < V35.heap.size := by have h1 := N35.out.2.2.2; have h2 := l34; omega
          refine (HD4.out _).mono ?_
          rintro e w36 ⟨rfl, hb⟩
          have R36 := Lib.hid (row_bel R35.out hb (by have := l35; omega))
          have Q36 := Lib.hid (row_bel Q35.out hb l35)
          have B36 := Lib.hid (B35.out.trans (hb.mono B35.out.size))
          have l36 := Nat.lt_of_lt_of_le l35 hb.size
          clear hb
          go_wp2
          go_ret
          exact ⟨rfl, B36.out⟩
        · skip
          go_wp2_with (refine wpList_store_row rfl 47 (.tmp 20) (.tmp 102) rfl w34.heap.size #[.int .u8 EK, .int .u32 EI, .string EN, .int .u32 EC] rfl rfl 47 #[.int .u8 0, .int .u32 0, .string ⟨#[]⟩, .int .u32 0] (heap_alloc_new w34 _) (by kernel_rfl) rfl (row4 _ _ _ _) ?_; change wpList _ _ _ _ _ ((w34.alloc (.cells #[.int .u8 0, .int .u32 0, .string ⟨#[]⟩, .int .u32 0] 47)).setRow w34.heap.size #[.int .u8 EK, .int .u32 EI, .string EN, .int .u32 EC]); generalize ((w34.alloc (.cells #[.int .u8 0, .int .u32 0, .string ⟨#[]⟩, .int .u32 0] 47)).setRow w34.heap.size #[.int .u8 EK, .int .u32 EI, .string EN, .int .u32 EC]) = V35 at *)
          have R35 := Lib.hid N35.out.1
          have Q35 := Lib.hid M35.out.1
          have S35 := Lib.hid N35.out.2.1
          have B35 := Lib.hid (B34.out.trans (N35.out.2.2.1.mono B34.out.size))
          have l35 : w.heap.size + 1 < V35.heap.size := by have h1 := N35.out.2.2.2; have h2 := l34; omega
          go_ret
          exact ⟨rfl, B35.out⟩
    · have HD := Lib.hid (HKY.out rfl)
      rw [HD.out.1, HD.out.2.1]
      have c0 : w27.cell? ⟨w.heap.size + 1, 0, none⟩ = some (.int .u8 K2) := (cell_of_row w27 (w.heap.size + 1) 0 #[.int .u8 K2, .int .u32 I, .string N, .int .u32 C] 47 (0, 0) Q27.out).trans rfl
      have c1 : w27.cell? ⟨w.heap.size + 1, 1, none⟩ = some (.int .u32 I) := (cell_of_row w27 (w.heap.size + 1) 1 #[.int .u8 K2, .int .u32 I, .string N, .int .u32 C] 47 (0, 0) Q27.out).trans rfl
      go_wp2_with fail
      refine (CP.out _).mono ?_
      rintro e w37 ⟨rfl, hb⟩
      have R37 := Lib.hid (row_bel R27.out hb (by have := l27; omega))
      have Q37 := Lib.hid (row_bel Q27.out hb l27)
      have B37 := Lib.hid (B27.out.trans (hb.mono B27.out.size))
      have l37 := Nat.lt_of_lt_of_le l27 hb.size
      clear hb
      clear c0 c1
      go_wp2_with fail
      refine (HD.out.2.2.1 _).mono ?_
      rintro e w38 ⟨rfl, hb⟩
      have R38 := Lib.hid (row_bel R37.out hb (by have := l37; omega))
      have Q38 := Lib.hid (row_bel Q37.out hb l37)
      have B38 := Lib.hid (B37.out.trans (hb.mono B37.out.size))
      have l38 := Nat.lt_of_lt_of_le l37 hb.size
      clear hb
      have N39 := Lib.hid (new_row2 (old := #[.int .u8 0, .int .u32 0, .string ⟨#[]⟩, .int .u32 0]) (cs := #[.int .u8 K2, .int .u32 I, .string N, .int .u32 C]) (t := 47) R38.out)
      have M39 := Lib.hid (new_row2 (old := #[.int .u8 0, .int .u32 0, .string ⟨#[]⟩, .int .u32 0]) (cs := #[.int .u8 K2, .int .u32 I, .string N, .int .u32 C]) (t := 47) Q38.out)
      have heq := HEK.out
      have hg := guardK
      have f1 := HD.out.2.2.2.1
      have f2 := HD.out.2.2.2.2.1
      have f3 := HD.out.2.2.2.2.2
      go_wp2_with (first
        | (refine wpList_store_row rfl 47 (.tmp 14) (.tmp 60) rfl w38.heap.size #[.int .u8 K2, .int .u32 I, .string N, .int .u32 C] rfl rfl 47 #[.int .u8 0, .int .u32 0, .string ⟨#[]⟩, .int .u32 0] (heap_alloc_new w38 _) (by kernel_rfl) rfl (row4 _ _ _ _) ?_; change wpList _ _ _ _ _ ((w38.alloc (.cells #[.int .u8 0, .int .u32 0, .string ⟨#[]⟩, .int .u32 0] 47)).setRow w38.heap.size #[.int .u8 K2, .int .u32 I, .string N, .int .u32 C]); generalize ((w38.alloc (.cells #[.int .u8 0, .int .u32 0, .string ⟨#[]⟩, .int .u32 0] 47)).setRow w38.heap.size #[.int .u8 K2, .int .u32 I, .string N, .int .u32 C]) = V39 at *)
        | (refine wpList_load_row rfl 47 (.tmp 14) rfl w38.heap.size rfl 47 #[.int .u8 K2, .int .u32 I, .string N, .int .u32 C] (0, 0) _ N39.out.2.1 Try.underlying47 rfl (by kernel_rfl) ?_)
        | (refine wpList_load_row rfl 47 (.tmp 4) rfl (w.heap.size + 1) rfl 47 #[.int .u8 K2, .int .u32 I, .string N, .int .u32 C] (0, 0) _ M39.out.1 Try.underlying47 rfl (by kernel_rfl) ?_))
      clear heq hg f1 f2 f3
      have R39 := Lib.hid N39.out.1
      have Q39 := Lib.hid M39.out.1
      have S39 := Lib.hid N39.out.2.1
      have B39 := Lib.hid (B38.out.trans (N39.out.2.2.1.mono B38.out.size))
      have l39 : w.heap.size + 1 < V39.heap.size := by have h1 := N39.out.2.2.2; have h2 := l38; omega
      refine (CD.out _).mono ?_
      rintro e w40 ⟨rfl, hb⟩
      have R40 := Lib.hid (row_bel R39.out hb (by have := l39; omega))
      have Q40 := Lib.hid (row_bel Q39.out hb l39)
      have B40 := Lib.hid (B39.out.trans (hb.mono B39.out.size))
      have l40 := Nat.lt_of_lt_of_le l39 hb.size
      clear hb
      have N41 := Lib.hid (new_row2 (old := #[.int .u8 0, .int .u16 0, .int .u32 0, .int .u32 0, .string ⟨#[]⟩]) (cs := #[.int .u8 DK, .int .u16 DM, .int .u32 DL, .int .u32 DS, .string DT]) (t := 39) R40.out)
      have M41 := Lib.hid (new_row2 (old := #[.int .u8 0, .int .u16 0, .int .u32 0, .int .u32 0, .string ⟨#[]⟩]) (cs := #[.int .u8 DK, .int .u16 DM, .int .u32 DL, .int .u32 DS, .string DT]) (t := 39) Q40.out)
      rcases HDC.out with ⟨y0, hd⟩ | ⟨y0, y1⟩
      · have HD3 := Lib.hid hd
        have s1 := HSS.out
        clear hd
        go_wp2_with (first
          | (refine wpList_store_row rfl 39 (.tmp 16) (.tmp 83) rfl w40.heap.size #[.int .u8 DK, .int .u16 DM, .int .u32 DL, .int .u32 DS, .string DT] rfl rfl 39 #[.int .u8 0, .int .u16 0, .int .u32 0, .int .u32 0, .string ⟨#[]⟩] (heap_alloc_new w40 _) (by kernel_rfl) rfl (row5 _ _ _ _ _) ?_; change wpList _ _ _ _ _ ((w40.alloc (.cells #[.int .u8 0, .int .u16 0, .int .u32 0, .int .u32 0, .string ⟨#[]⟩] 39)).setRow w40.heap.size #[.int .u8 DK, .int .u16 DM, .int .u32 DL, .int .u32 DS, .string DT]); generalize ((w40.alloc (.cells #[.int .u8 0, .int .u16 0, .int .u32 0, .int .u32 0, .string ⟨#[]⟩] 39)).setRow w40.heap.size #[.int .u8 DK, .int .u16 DM, .int .u32 DL, .int .u32 DS, .string DT]) = V41 at *)
          | (refine wpList_load_row rfl 39 (.tmp 16) rfl w40.heap.size rfl 39 #[.int .u8 DK, .int .u16 DM, .int .u32 DL, .int .u32 DS, .string DT] (0, 0) _ N41.out.2.1 Try.underlying39 rfl (by kernel_rfl) ?_))
        have R41 := Lib.hid N41.out.1
        have Q41 := Lib.hid M41.out.1
        have S41 := Lib.hid N41.out.2.1
        have B41 := Lib.hid (B40.out.trans (N41.out.2.2.1.mono B40.out.size))
        have l41 : w.heap.size + 1 < V41.heap.size := by have h1 := N41.out.2.2.2; have h2 := l40; omega
        refine (HD3.out _).mono ?_
        rintro e w42 ⟨rfl, hb⟩
        have R42 := Lib.hid (row_bel R41.out hb (by have := l41; omega))
        have Q42 := Lib.hid (row_bel Q41.out hb l41)
        have B42 := Lib.hid (B41.out.trans (hb.mono B41.out.size))
        have l42 := Nat.lt_of_lt_of_le l41 hb.size
        clear hb
        go_wp2_with fail
        clear y0
        refine (CQ.out _).mono ?_
        rintro e w43 ⟨rfl, hb⟩
        have R43 := Lib.hid (row_bel R42.out hb (by have := l42; omega))
        have Q43 := Lib.hid (row_bel Q42.out hb l42)
        have B43 := Lib.hid (B42.out.trans (hb.mono B42.out.size))
        have l43 := Nat.lt_of_lt_of_le l42 hb.size
        clear hb
        have N44 := Lib.hid (new_row2 (old := #[.int .u8 0, .int .u32 0, .string ⟨#[]⟩, .int .u32 0]) (cs := #[.int .u8 EK, .int .u32 EI, .string EN, .int .u32 EC]) (t := 47) R43.out)
        have M44 := Lib.hid (new_row2 (old := #[.int .u8 0, .int .u32 0, .string ⟨#[]⟩, .int .u32 0]) (cs := #[.int .u8 EK, .int .u32 EI, .string EN, .int .u32 EC]) (t := 47) Q43.out)
        rcases HQC.out with ⟨z0, hd, hz⟩ | ⟨z0, z1⟩
        · have HD4 := Lib.hid hd
          have s1 := HSS.out
          have d48 : decide ((s.size : Int) ≤ 48) = true := by
            rw [decide_eq_true_eq]; omega
          clear hd
          go_wp2_with (first
            | (refine wpList_store_row rfl 47 (.tmp 20) (.tmp 102) rfl w43.heap.size #[.int .u8 EK, .int .u32 EI, .string EN, .int .u32 EC] rfl rfl 47 #[.int .u8 0, .int .u32 0, .string ⟨#[]⟩, .int .u32 0] (heap_alloc_new w43 _) (by kernel_rfl) rfl (row4 _ _ _ _) ?_; change wpList _ _ _ _ _ ((w43.alloc (.cells #[.int .u8 0, .int .u32 0, .string ⟨#[]⟩, .int .u32 0] 47)).setRow w43.heap.size #[.int .u8 EK, .int .u32 EI, .string EN, .int .u32 EC]); generalize ((w43.alloc (.cells #[.int .u8 0, .int .u32 0, .string ⟨#[]⟩, .int .u32 0] 47)).setRow w43.heap.size #[.int .u8 EK, .int .u32 EI, .string EN, .int .u32 EC]) = V44 at *)
            | (refine wpList_load_row rfl 47 (.tmp 20) rfl w43.heap.size rfl 47 #[.int .u8 EK, .int .u32 EI, .string EN, .int .u32 EC] (0, 0) _ N44.out.2.1 Try.underlying47 rfl (by kernel_rfl) ?_))
          have R44 := Lib.hid N44.out.1
          have Q44 := Lib.hid M44.out.1
          have S44 := Lib.hid N44.out.2.1
          have B44 := Lib.hid (B43.out.trans (N44.out.2.2.1.mono B43.out.size))
          have l44 : w.heap.size + 1 < V44.heap.size := by have h1 := N44.out.2.2.2; have h2 := l43; omega
          refine (HD4.out _).mono ?_
          rintro e w45 ⟨rfl, hb⟩
          have R45 := Lib.hid (row_bel R44.out hb (by have := l44; omega))
          have Q45 := Lib.hid (row_bel Q44.out hb l44)
          have B45 := Lib.hid (B44.out.trans (hb.mono B44.out.size))
          have l45 := Nat.lt_of_lt_of_le l44 hb.size
          clear hb
          go_wp2
          go_ret
          exact ⟨rfl, B45.out⟩
        · skip
          go_wp2_with (refine wpList_store_row rfl 47 (.tmp 20) (.tmp 102) rfl w43.heap.size #[.int .u8 EK, .int .u32 EI, .string EN, .int .u32 EC] rfl rfl 47 #[.int .u8 0, .int .u32 0, .string ⟨#[]⟩, .int .u32 0] (heap_alloc_new w43 _) (by kernel_rfl) rfl (row4 _ _ _ _) ?_; change wpList _ _ _ _ _ ((w43.alloc (.cells #[.int .u8 0, .int .u32 0, .string ⟨#[]⟩, .int .u32 0] 47)).setRow w43.heap.size #[.int .u8 EK, .int .u32 EI, .string EN, .int .u32 EC]); generalize ((w43.alloc (.cells #[.int .u8 0, .int .u32 0, .string ⟨#[]⟩, .int .u32 0] 47)).setRow w43.heap.size #[.int .u8 EK, .int .u32 EI, .string EN, .int .u32 EC]) = V44 at *)
          have R44 := Lib.hid N44.out.1
          have Q44 := Lib.hid M44.out.1
          have S44 := Lib.hid N44.out.2.1
          have B44 := Lib.hid (B43.out.trans (N44.out.2.2.1.mono B43.out.size))
          have l44 : w.heap.size + 1 < V44.heap.size := by have h1 := N44.out.2.2.2; have h2 := l43; omega
          go_ret
          exact ⟨rfl, B44.out⟩
      · skip
        go_wp2_with (refine wpList_store_row rfl 39 (.tmp 16) (.tmp 83) rfl w40.heap.size #[.int .u8 DK, .int .u16 DM, .int .u32 DL, .int .u32 DS, .string DT] rfl rfl 39 #[.int .u8 0, .int .u16 0, .int .u32 0, .int .u32 0, .string ⟨#[]⟩] (heap_alloc_new w40 _) (by kernel_rfl) rfl (row5 _ _ _ _ _) ?_; change wpList _ _ _ _ _ ((w40.alloc (.cells #[.int .u8 0, .int .u16 0, .int .u32 0, .int .u32 0, .string ⟨#[]⟩] 39)).setRow w40.heap.size #[.int .u8 DK, .int .u16 DM, .int .u32 DL, .int .u32 DS, .string DT]); generalize ((w40.alloc (.cells #[.int .u8 0, .int .u16 0, .int .u32 0, .int .u32 0, .string ⟨#[]⟩] 39)).setRow w40.heap.size #[.int .u8 DK, .int .u16 DM, .int .u32 DL, .int .u32 DS, .string DT]) = V41 at *)
        have R41 := Lib.hid N41.out.1
        have Q41 := Lib.hid M41.out.1
        have S41 := Lib.hid N41.out.2.1
        have B41 := Lib.hid (B40.out.trans (N41.out.2.2.1.mono B40.out.size))
        have l41 : w.heap.size + 1 < V41.heap.size := by have h1 := N41.out.2.2.2; have h2 := l40; omega
        clear y0 y1
        refine (CQ.out _).mono ?_
        rintro e w46 ⟨rfl, hb⟩
        have R46 := Lib.hid (row_bel R41.out hb (by have := l41; omega))
        have Q46 := Lib.hid (row_bel Q41.out hb l41)
        have B46 := Lib.hid (B41.out.trans (hb.mono B41.out.size))
        have l46 := Nat.lt_of_lt_of_le l41 hb.size
        clear hb
        have N47 := Lib.hid (new_row2 (old := #[.int .u8 0, .int .u32 0, .string ⟨#[]⟩, .int .u32 0]) (cs := #[.int .u8 EK, .int .u32 EI, .string EN, .int .u32 EC]) (t := 47) R46.out)
        have M47 := Lib.hid (new_row2 (old := #[.int .u8 0, .int .u32 0, .string ⟨#[]⟩, .int .u32 0]) (cs := #[.int .u8 EK, .int .u32 EI, .string EN, .int .u32 EC]) (t := 47) Q46.out)
        rcases HQC.out with ⟨z0, hd, hz⟩ | ⟨z0, z1⟩
        · have HD4 := Lib.hid hd
          have s1 := HSS.out
          have d48 : decide ((s.size : Int) ≤ 48) = true := by
            rw [decide_eq_true_eq]; omega
          clear hd
          go_wp2_with (first
            | (refine wpList_store_row rfl 47 (.tmp 20) (.tmp 102) rfl w46.heap.size #[.int .u8 EK, .int .u32 EI, .string EN, .int .u32 EC] rfl rfl 47 #[.int .u8 0, .int .u32 0, .string ⟨#[]⟩, .int .u32 0] (heap_alloc_new w46 _) (by kernel_rfl) rfl (row4 _ _ _ _) ?_; change wpList _ _ _ _ _ ((w46.alloc (.cells #[.int .u8 0, .int .u32 0, .string ⟨#[]⟩, .int .u32 0] 47)).setRow w46.heap.size #[.int .u8 EK, .int .u32 EI, .string EN, .int .u32 EC]); generalize ((w46.alloc (.cells #[.int .u8 0, .int .u32 0, .string ⟨#[]⟩, .int .u32 0] 47)).setRow w46.heap.size #[.int .u8 EK, .int .u32 EI, .string EN, .int .u32 EC]) = V47 at *)
            | (refine wpList_load_row rfl 47 (.tmp 20) rfl w46.heap.size rfl 47 #[.int .u8 EK, .int .u32 EI, .string EN, .int .u32 EC] (0, 0) _ N47.out.2.1 Try.underlying47 rfl (by kernel_rfl) ?_))
          have R47 := Lib.hid N47.out.1
          have Q47 := Lib.hid M47.out.1
          have S47 := Lib.hid N47.out.2.1
          have B47 := Lib.hid (B46.out.trans (N47.out.2.2.1.mono B46.out.size))
          have l47 : w.heap.size + 1 < V47.heap.size := by have h1 := N47.out.2.2.2; have h2 := l46; omega
          refine (HD4.out _).mono ?_
          rintro e w48 ⟨rfl, hb⟩
          have R48 := Lib.hid (row_bel R47.out hb (by have := l47; omega))
          have Q48 := Lib.hid (row_bel Q47.out hb l47)
          have B48 := Lib.hid (B47.out.trans (hb.mono B47.out.size))
          have l48 := Nat.lt_of_lt_of_le l47 hb.size
          clear hb
          go_wp2
          go_ret
          exact ⟨rfl, B48.out⟩
        · skip
          go_wp2_with (refine wpList_store_row rfl 47 (.tmp 20) (.tmp 102) rfl w46.heap.size #[.int .u8 EK, .int .u32 EI, .string EN, .int .u32 EC] rfl rfl 47 #[.int .u8 0, .int .u32 0, .string ⟨#[]⟩, .int .u32 0] (heap_alloc_new w46 _) (by kernel_rfl) rfl (row4 _ _ _ _) ?_; change wpList _ _ _ _ _ ((w46.alloc (.cells #[.int .u8 0, .int .u32 0, .string ⟨#[]⟩, .int .u32 0] 47)).setRow w46.heap.size #[.int .u8 EK, .int .u32 EI, .string EN, .int .u32 EC]); generalize ((w46.alloc (.cells #[.int .u8 0, .int .u32 0, .string ⟨#[]⟩, .int .u32 0] 47)).setRow w46.heap.size #[.int .u8 EK, .int .u32 EI, .string EN, .int .u32 EC]) = V47 at *)
          have R47 := Lib.hid N47.out.1
          have Q47 := Lib.hid M47.out.1
          have S47 := Lib.hid N47.out.2.1
          have B47 := Lib.hid (B46.out.trans (N47.out.2.2.1.mono B46.out.size))
          have l47 : w.heap.size + 1 < V47.heap.size := by have h1 := N47.out.2.2.2; have h2 := l46; omega
          go_ret
          exact ⟨rfl, B47.out⟩
end Go.Proofs.Ytkmbophbjgfacaa.Ino
