/- The document's own Decode of superblocks (cambiumref09). -/
import Derived.Test.YtlchjohaacbkpaaGreatDoorRsA
import Derived.Test.YtlchjohaacbkpaaGreatDoorZrg
namespace Go.Proofs.YtlchjohaacbkpaaGreatDoor.Rs
set_option linter.unusedVariables false
set_option linter.unusedSimpArgs false
open Go.ChangeShapes Go.WideShapes Go.ChangeAt Go.RowKit
open Sp Nd Nr Rg Ar
open BigFrame
open Pk (be num be_length u8s u8s_length num_lt)
theorem dt_app {α : Type} (X Y : List α) (a b : Nat) (h : a + b ≤ X.length) : ((X ++ Y).drop a).take b = (X.drop a).take b := by
  rw [List.drop_append_of_le_length (by omega), List.take_append_of_le_length (by rw [List.length_drop]; omega)]
theorem extract_to (s : ByteArray) (k : Nat) : s.extract 0 k = bs (s.data.toList.take k) := by
  apply ByteArray.ext
  apply Array.toList_inj.1
  rw [ByteArray.data_extract, Array.toList_extract, List.extract_eq_take_drop, bs_data]
  simp
theorem rparts (d : ByteArray) (h : d.size ≤ 512) : ∃ (r0 r1 r2 r3 hh : ByteArray) (n1 n2 n3 : Nat), (bs (fillz d.data.toList 512)).extract 6 512 = r0 ∧ r0.size = 506 ∧
    num (r0.data.toList.take 4) = n1 ∧ r0.extract 4 r0.size = r1 ∧ r1.size = 502 ∧ num (r1.data.toList.take 8) = n2 ∧ r1.extract 8 r1.size = r2 ∧ r2.size = 494 ∧ num (r2.data.toList.take 4) = n3 ∧ r2.extract 4 r2.size = r3 ∧ r3.size = 490 ∧ r3.extract 0 32 = hh ∧ hh.size = 32 ∧
    n1 < 4294967296 ∧ n3 < 4294967296 ∧ tkS d = ⟨n1, n2, n3, hh.data.toList⟩ := by
  have hl : d.data.toList.length = d.size := by rw [Array.length_toList]; rfl
  have hF := fillz_len (l := d.data.toList) (m := 512) (by omega)
  obtain ⟨F, hFe⟩ : ∃ F, fillz d.data.toList 512 = F := ⟨_, rfl⟩
  have hL : ∃ Y, (d.data.toList ++ List.replicate 512 0).drop 6 = F.drop 6 ++ Y := by
    refine ⟨List.replicate d.size 0, ?_⟩
    have e : d.data.toList ++ List.replicate 512 0 = F ++ List.replicate d.size 0 := by
      rw [← hFe]
      unfold fillz
      rw [List.append_assoc, List.replicate_append_replicate, hl, show 512 - d.size + d.size = 512 by omega]
    rw [e, List.drop_append_of_le_length (by rw [← hFe, hF]; omega)]
  obtain ⟨Y, hY⟩ := hL
  rw [hFe] at hF ⊢
  have s0 : (bs F).extract 6 512 = bs (F.drop 6) := by have := extract_bs (bs F) 6; rw [bs_size, hF, bs_data] at this; exact this
  have q0 : (bs (F.drop 6)).size = 506 := by rw [bs_size, List.length_drop, hF]
  have s1 : (bs (F.drop 6)).extract 4 (bs (F.drop 6)).size = bs (F.drop 10) := by rw [extract_bs, bs_data, List.drop_drop]
  have q1 : (bs (F.drop 10)).size = 502 := by rw [bs_size, List.length_drop, hF]
  have s2 : (bs (F.drop 10)).extract 8 (bs (F.drop 10)).size = bs (F.drop 18) := by rw [extract_bs, bs_data, List.drop_drop]
  have q2 : (bs (F.drop 18)).size = 494 := by rw [bs_size, List.length_drop, hF]
  have s3 : (bs (F.drop 18)).extract 4 (bs (F.drop 18)).size = bs (F.drop 22) := by rw [extract_bs, bs_data, List.drop_drop]
  have q3 : (bs (F.drop 22)).size = 490 := by rw [bs_size, List.length_drop, hF]
  have s4 : (bs (F.drop 22)).extract 0 32 = bs ((F.drop 22).take 32) := by rw [extract_to, bs_data]
  have q4 : (bs ((F.drop 22).take 32)).size = 32 := by rw [bs_size, List.length_take, List.length_drop, hF]; rfl
  have lt4 : ∀ l : List UInt8, num (l.take 4) < 4294967296 := fun l => by
    have h1 := num_lt (l.take 4)
    have h2 : (l.take 4).length ≤ 4 := by rw [List.length_take]; omega
    have h3 : 256 ^ (l.take 4).length ≤ 256 ^ 4 := Nat.pow_le_pow_right (by omega) h2
    omega
  refine ⟨_, _, _, _, _, _, _, _, s0, q0, rfl, s1, q1, rfl, s2, q2, rfl, s3, q3, s4, q4, ?_, ?_, ?_⟩
  · rw [bs_data]; exact lt4 _
  · rw [bs_data]; exact lt4 _
  · unfold tkS
    rw [hY, tk_list (by rw [List.length_append, List.length_drop, hF]; omega)]
    have hd6 : (F.drop 6).length = 506 := by rw [List.length_drop, hF]
    rw [dt_app _ _ 4 8 (by omega), dt_app _ _ 12 4 (by omega), dt_app _ _ 16 32 (by omega), List.take_append_of_le_length (by omega), List.drop_drop, List.drop_drop, List.drop_drop, bs_data, bs_data, bs_data, bs_data]
theorem out_big {d : ByteArray} (h : 512 < d.size) : ¬ IsS d := fun hi => by
  have h1 : (enS (tkS d)).size ≤ 512 := by
    rw [(chS_yes hi.1).2, bs_size]
    exact seal_len (by rw [wS_len (tkS_lim d).2.2.2]; omega)
  rw [hi.2] at h1
  omega
set_option maxRecDepth 100000 in
set_option maxHeartbeats 8000000 in
theorem rdecode_su (d : ByteArray) (hd : d.size ≤ 140737488351232) (w : World) :
    Calls Tryz.prog 29 #[.string d] w fun e w' => e = .returned (.tuple #[vS (deV d), .int .i64 (deX d)]) ∧ Below w.heap.size w w' := by
  have R0 := Lib.hid (heap_alloc_new w (.cells zS 44))
  have B0 := Lib.hid ((Below.refl w.heap.size w).alloc (Nat.le_refl _) (.cells zS 44))
  by_cases hbig : 512 < d.size
  · obtain ⟨e3, e4⟩ := de_no (out_big hbig)
    rw [e3, e4]
    have q : decide ((512 : Int) < (d.size : Int)) = true := by simp; omega
    have R4 := Lib.hid (setRow_heap' (cs := zS) R0.out)
    have B4 := Lib.hid (below_setRow B0.out (Nat.le_refl _) zS)
    clear hbig e3 e4
    go_enter Tryz.func29, Tryz.ntmps29
    go_wp2_with (refine wpList_store_row rfl 44 (.tmp 2) (.tmp 11) rfl w.heap.size zS rfl rfl 44 zS R0.out infoZ rfl zS_one ?_)
    refine bodyPost_ret (v := .tuple #[.agg zS, .int .i64 9]) (results_row2 rfl _ _ w.heap.size 44 zS (0, 0) _ rfl R4.out Tryz.underlying44 rfl infoZ _ rfl) rfl ?_
    exact ⟨rfl, B4.out⟩
  have q : decide ((512 : Int) < (d.size : Int)) = false := by simp; omega
  have hl := tkS_lim d
  have HE := Lib.hid (fun w => rencode_su (tkS d) hl w)
  have HCI := Lib.hid (infoSa (s := tkS d) hl.2.2.2)
  have HCO := Lib.hid (all_of_one (esS_one (tkS d)))
  have HCZ := Lib.hid (zS_size.trans (show 35 = (esS (tkS d)).toArray.size by rw [List.size_toArray, esS_len hl.2.2.2]))
  have HN := Lib.hid (fun h : ¬ (okS (tkS d) = true ∧ enS (tkS d) = d) => de_no h)
  have HY := Lib.hid (fun h : okS (tkS d) = true ∧ enS (tkS d) = d => (⟨by rw [(de_yes h).1]; rfl, (de_yes h).2⟩ : vS (deV d) = .agg (esS (tkS d)).toArray ∧ deX d = 0))
  have HKN := Lib.hid (fun h : okS (tkS d) = false => chS_no h)
  have HKY := Lib.hid (fun h : okS (tkS d) = true => (chS_yes h).1)
  obtain ⟨r0, r1, r2, r3, hh, n1, n2, n3, p0, z0, p1, p2, z1, p3, p4, z2, p5, p6, z3, p7, z4, l1, l3, ht⟩ := rparts d (by omega)
  have HFI := Lib.hid (fun w => rfilled_any d (by omega) w)
  have h32 : hh.data.toList.length = 32 := by rw [Array.length_toList]; exact z4
  have HCP := Lib.hid (show ((#[.int .u32 (n1 : Int), .int .u64 (n2 : Int), .int .u32 (n3 : Int), .int .u8 0, .int .u8 0, .int .u8 0, .int .u8 0, .int .u8 0, .int .u8 0, .int .u8 0, .int .u8 0, .int .u8 0, .int .u8 0, .int .u8 0, .int .u8 0, .int .u8 0, .int .u8 0, .int .u8 0, .int .u8 0, .int .u8 0, .int .u8 0, .int .u8 0, .int .u8 0, .int .u8 0, .int .u8 0, .int .u8 0, .int .u8 0, .int .u8 0, .int .u8 0, .int .u8 0, .int .u8 0, .int .u8 0, .int .u8 0, .int .u8 0, .int .u8 0] : Array Value).toList.take 3 ++ Lib.byteCells (hh.data.toList.take 32) ++ (#[.int .u32 (n1 : Int), .int .u64 (n2 : Int), .int .u32 (n3 : Int), .int .u8 0, .int .u8 0, .int .u8 0, .int .u8 0, .int .u8 0, .int .u8 0, .int .u8 0, .int .u8 0, .int .u8 0, .int .u8 0, .int .u8 0, .int .u8 0, .int .u8 0, .int .u8 0, .int .u8 0, .int .u8 0, .int .u8 0, .int .u8 0, .int .u8 0, .int .u8 0, .int .u8 0, .int .u8 0, .int .u8 0, .int .u8 0, .int .u8 0, .int .u8 0, .int .u8 0, .int .u8 0, .int .u8 0, .int .u8 0, .int .u8 0, .int .u8 0] : Array Value).toList.drop (3 + 32)).toArray = (esS (tkS d)).toArray by
    have htk : hh.data.toList.take 32 = hh.data.toList := List.take_of_length_le (by omega)
    rw [htk, ht]
    exact cur_copied n1 n2 n3 _ h32)
  have N1 := Lib.hid (show ∀ q w, BagAt w q r0 false → Calls Tryz.prog 61 #[.pointer (some ⟨q, 0, none⟩), .int .i64 4] w (fun e w' => e = .returned (.int .u64 (n1 : Nat)) ∧ BagAt w' q r1 false ∧ w.grownBy w' (some q)) from fun q w h => by
    have := number_good r0 4 q (by omega) (by omega) (by omega) (by omega) w h
    rw [p1, p2] at this
    exact this)
  have N2 := Lib.hid (show ∀ q w, BagAt w q r1 false → Calls Tryz.prog 61 #[.pointer (some ⟨q, 0, none⟩), .int .i64 8] w (fun e w' => e = .returned (.int .u64 (n2 : Nat)) ∧ BagAt w' q r2 false ∧ w.grownBy w' (some q)) from fun q w h => by
    have := number_good r1 8 q (by omega) (by omega) (by omega) (by omega) w h
    rw [p3, p4] at this
    exact this)
  have N3 := Lib.hid (show ∀ q w, BagAt w q r2 false → Calls Tryz.prog 61 #[.pointer (some ⟨q, 0, none⟩), .int .i64 4] w (fun e w' => e = .returned (.int .u64 (n3 : Nat)) ∧ BagAt w' q r3 false ∧ w.grownBy w' (some q)) from fun q w h => by
    have := number_good r2 4 q (by omega) (by omega) (by omega) (by omega) w h
    rw [p5, p6] at this
    exact this)
  have N4 := Lib.hid (show ∀ q w, BagAt w q r3 false → Calls Tryz.prog 62 #[.pointer (some ⟨q, 0, none⟩), .int .i64 32] w (fun e w' => e = .returned (.string hh) ∧ BagAt w' q (r3.extract 32 r3.size) false ∧ w.grownBy w' (some q)) from fun q w h => by
    have := some_good r3 32 q (by omega) (by omega) w h
    rw [p7] at this
    exact this)
  have HX0 := Lib.hid p0
  have HU1 := Lib.hid (u32_same l1)
  have HU3 := Lib.hid (u32_same l3)
  have hxz : (bs (fillz d.data.toList 512)).size = 512 := by rw [bs_size]; exact fillz_len (by rw [Array.length_toList]; exact Nat.le_of_not_lt hbig)
  obtain ⟨X, hX⟩ : ∃ X, bs (fillz d.data.toList 512) = X := ⟨_, rfl⟩
  rw [hX] at HFI hxz HX0
  obtain ⟨C, hC⟩ : ∃ C, (esS (tkS d)).toArray = C := ⟨_, rfl⟩
  rw [show vS (tkS d) = .agg (esS (tkS d)).toArray from rfl, hC] at HE
  rw [hC] at HCI HCO HCZ HY HCP
  obtain ⟨V, hV⟩ : ∃ V, vS (deV d) = V := ⟨_, rfl⟩
  obtain ⟨XX, hXX⟩ : ∃ V, deX d = V := ⟨_, rfl⟩
  obtain ⟨y, hy⟩ : ∃ V, enS (tkS d) = V := ⟨_, rfl⟩
  obtain ⟨x, hx⟩ : ∃ V, chS (tkS d) = V := ⟨_, rfl⟩
  obtain ⟨qb, hqb⟩ : ∃ V, okS (tkS d) = V := ⟨_, rfl⟩
  rw [hV, hXX, hy, hqb] at HN HY
  rw [hV, hXX]
  rw [hy, hx] at HE
  rw [hy, hx, hqb] at HKN
  rw [hx, hqb] at HKY
  clear hC hV hXX hy hx hqb hl hX ht p0 p1 p2 p3 p4 p5 p6 p7 l1 l3 hbig h32
  go_enter Tryz.func29, Tryz.ntmps29
  go_wp2_with fail
  generalize w.alloc _ = W at *
  refine (HFI.out _).mono ?_
  rintro e w1 ⟨rfl, hb⟩
  have R1 := Lib.hid ((hb.block _ (row_lt R0.out)).trans R0.out)
  have B1 := Lib.hid (B0.out.trans (hb.mono B0.out.size))
  have l1 := row_lt R1.out
  clear hb R0 B0 HFI
  have hx6 : (6 : Int) ≤ (X.size : Int) := by omega
  have hx0 : X.extract 6 512 = r0 := HX0.out
  have hx512 : X.size = 512 := hxz
  have hal : Below w1.heap.size w1 (w1.alloc (.cells #[.string r0, .bool false] 79)) := (Below.refl _ _).alloc (Nat.le_refl _) _
  have HBG := Lib.hid (show BagAt (w1.alloc (.cells #[.string r0, .bool false] 79)) w1.heap.size r0 false from heap_alloc_new w1 _)
  have R2 := Lib.hid ((hal.block _ l1).trans R1.out)
  have B2 := Lib.hid (B1.out.trans (hal.mono B1.out.size))
  have HQ0 := Lib.hid (show w.heap.size ≤ w1.heap.size from B1.out.size)
  have HNE := Lib.hid (show w1.heap.size ≠ w.heap.size from Nat.ne_of_gt l1)
  have HSQ0 := Lib.hid (show w1.heap.size < (w1.alloc (.cells #[.string r0, .bool false] 79)).heap.size by simp)
  clear hal R1 B1 l1
  go_wp2_with fail
  generalize w1.alloc _ = w2 at *
  generalize w1.heap.size = g at *
  clear hx0 hx6 hx512 hxz
  have u1 := HU1.out
  have u3 := HU3.out
  refine (N1.out _ _ HBG.out).mono ?_
  rintro e w3 ⟨rfl, hbag, hgr⟩
  have HBG1 := Lib.hid hbag
  have R3 := Lib.hid ((hgr.block w.heap.size (row_lt R2.out) (fun e => HNE.out (Option.some.inj e).symm)).trans R2.out)
  have B3 := Lib.hid (B2.out.grown hgr B2.out.size (fun k hk => by cases hk; exact HQ0.out))
  have HSQ1 := Lib.hid (Nat.lt_of_lt_of_le HSQ0.out hgr.size)
  clear hbag hgr HBG R2 B2
  go_wp2_with fail
  refine (N2.out _ _ HBG1.out).mono ?_
  rintro e w4 ⟨rfl, hbag, hgr⟩
  have HBG2 := Lib.hid hbag
  have R4 := Lib.hid ((hgr.block w.heap.size (row_lt R3.out) (fun e => HNE.out (Option.some.inj e).symm)).trans R3.out)
  have B4 := Lib.hid (B3.out.grown hgr B3.out.size (fun k hk => by cases hk; exact HQ0.out))
  have HSQ2 := Lib.hid (Nat.lt_of_lt_of_le HSQ1.out hgr.size)
  clear hbag hgr HBG1 R3 B3
  go_wp2_with fail
  refine (N3.out _ _ HBG2.out).mono ?_
  rintro e w5 ⟨rfl, hbag, hgr⟩
  have HBG3 := Lib.hid hbag
  have R5 := Lib.hid ((hgr.block w.heap.size (row_lt R4.out) (fun e => HNE.out (Option.some.inj e).symm)).trans R4.out)
  have B5 := Lib.hid (B4.out.grown hgr B4.out.size (fun k hk => by cases hk; exact HQ0.out))
  have HSQ3 := Lib.hid (Nat.lt_of_lt_of_le HSQ2.out hgr.size)
  clear hbag hgr HBG2 R4 B4
  go_wp2_with (refine wpList_fresh rfl 44 (.tmp 5) (.tmp 25) rfl #[.int .u32 (n1 : Int), .int .u64 (n2 : Int), .int .u32 (n3 : Int), .int .u8 0, .int .u8 0, .int .u8 0, .int .u8 0, .int .u8 0, .int .u8 0, .int .u8 0, .int .u8 0, .int .u8 0, .int .u8 0, .int .u8 0, .int .u8 0, .int .u8 0, .int .u8 0, .int .u8 0, .int .u8 0, .int .u8 0, .int .u8 0, .int .u8 0, .int .u8 0, .int .u8 0, .int .u8 0, .int .u8 0, .int .u8 0, .int .u8 0, .int .u8 0, .int .u8 0, .int .u8 0, .int .u8 0, .int .u8 0, .int .u8 0, .int .u8 0] zS 44 rfl rfl (infoCur n1 n2 n3) rfl (cur_one n1 n2 n3) ?_; intro w6 hb hrow hsz; have R6 := Lib.hid ((hb.block _ (row_lt R5.out)).trans R5.out); have Q6 := Lib.hid hrow; have B6 := Lib.hid (B5.out.trans (hb.mono B5.out.size)); have HBG6 := Lib.hid (HBG3.out.below hb); have HNQ := Lib.hid (Nat.ne_of_lt HSQ3.out); have HL5 := Lib.hid (row_lt R5.out); clear u1 u3 hb hrow hsz R5 B5 HBG3)
  refine wp_region_T (fun w' : World => True) 4 (by kernel_rfl) (by kernel_rfl) ?_
  have hS : True := trivial
  refine take_T 0 26 (.pointer (some ⟨w5.heap.size, 3, none⟩)) rfl (by rfl) (by kernel_rfl) (by decide) (by kernel_rfl) (by kernel_rfl) (by kernel_rfl) (fun _ _ _ h => h) (Or.inl ⟨by rfl, fun w' hSw => by go_simp⟩) hS ?_
  simp only [List.setIfInBounds_toArray, List.set_cons_zero, List.set_cons_succ]
  refine take_T 1 27 (.slice (some ⟨w5.heap.size, 3, none⟩) 32 32) rfl (by rfl) (by kernel_rfl) (by decide) (by kernel_rfl) (by kernel_rfl) (by kernel_rfl) (fun _ _ _ h => h) (Or.inl ⟨by rfl, fun w' hSw => by go_simp⟩) hS ?_
  simp only [List.setIfInBounds_toArray, List.set_cons_zero, List.set_cons_succ]
  refine take_T 2 28 (.pointer (some ⟨g, 0, none⟩)) rfl (by rfl) (by kernel_rfl) (by decide) (by kernel_rfl) (by kernel_rfl) (by kernel_rfl) (fun _ _ _ h => h) (Or.inl ⟨by rfl, fun w' hSw => by go_simp⟩) hS ?_
  simp only [List.setIfInBounds_toArray, List.set_cons_zero, List.set_cons_succ]
  refine only_T 3 rfl (by kernel_rfl) (by decide) (by rfl) (fun K hK => ?_)
  go_simp
  have hbg6 : BagAt w6.drew g r3 false := HBG6.out
  refine (N4.out g w6.drew hbg6).mono ?_
  clear hbg6
  rintro e w7 ⟨rfl, hbag, hgr⟩
  have R7 := Lib.hid ((hgr.block w.heap.size (row_lt R6.out) (fun e => HNE.out (Option.some.inj e).symm)).trans R6.out)
  have Q7 := Lib.hid ((hgr.block w5.heap.size (row_lt Q6.out) (fun e => HNQ.out (Option.some.inj e).symm)).trans Q6.out)
  have B7 := Lib.hid (B6.out.drew.grown hgr B6.out.size (fun k hk => by cases hk; exact HQ0.out))
  clear hbag hgr
  have hS2 : True := trivial
  refine hK.out _ _ hS2 ?_
  clear hK K
  try simp only [Act.put, List.setIfInBounds_toArray, List.set_cons_zero, List.set_cons_succ]
  refine done_T (by kernel_rfl) ?_
  simp only [List.drop_succ_cons, List.drop_zero]
  clear R6 Q6 B6 HBG6
  have hz32 : 32 ≤ hh.size := by omega
  have HZ32 := Lib.hid hz32
  clear hz32
  go_wp2_with (first
    | (refine wpList_copy_long rfl (.tmp 27) (.tmp 29) 54 9 rfl 5 Tryz.underlying54 info8s w5.heap.size 3 32 32 rfl hh rfl #[.int .u32 (n1 : Int), .int .u64 (n2 : Int), .int .u32 (n3 : Int), .int .u8 0, .int .u8 0, .int .u8 0, .int .u8 0, .int .u8 0, .int .u8 0, .int .u8 0, .int .u8 0, .int .u8 0, .int .u8 0, .int .u8 0, .int .u8 0, .int .u8 0, .int .u8 0, .int .u8 0, .int .u8 0, .int .u8 0, .int .u8 0, .int .u8 0, .int .u8 0, .int .u8 0, .int .u8 0, .int .u8 0, .int .u8 0, .int .u8 0, .int .u8 0, .int .u8 0, .int .u8 0, .int .u8 0, .int .u8 0, .int .u8 0, .int .u8 0] 44 Q7.out HZ32.out (show 3 + 32 ≤ 35 from Nat.le_refl _) C HCP.out ?_; have Q8 := Lib.hid (setRow_heap' (cs := C) Q7.out); have R8 := Lib.hid ((setRow_other w7 w5.heap.size w.heap.size C (Nat.ne_of_lt HL5.out)).trans R7.out); have B8 := Lib.hid (below_setRow B7.out (Nat.le_of_lt HL5.out) C); generalize w7.setRow w5.heap.size C = w8 at *; clear Q7 R7 B7)
    | (refine wpList_load_row rfl 44 (.tmp 5) rfl w5.heap.size rfl 44 C (0, 0) _ Q8.out Tryz.underlying44 rfl HCI.out ?_))
  refine (HE.out _).mono ?_
  rintro e w9 ⟨rfl, hb⟩
  have R9 := Lib.hid ((hb.block _ (row_lt R8.out)).trans R8.out)
  have Q9 := Lib.hid ((hb.block _ (row_lt Q8.out)).trans Q8.out)
  have B9 := Lib.hid (B8.out.trans (hb.mono B8.out.size))
  clear hb R8 Q8 B8 HE
  have RA := Lib.hid (setRow_heap' (cs := zS) R9.out)
  have RB := Lib.hid (setRow_heap' (cs := C) R9.out)
  have BA := Lib.hid (below_setRow B9.out (Nat.le_refl _) zS)
  have BB := Lib.hid (below_setRow B9.out (Nat.le_refl _) C)
  cases qb
  · obtain ⟨e1, e2⟩ := HKN.out rfl
    obtain ⟨e3, e4⟩ := HN.out (by simp)
    clear HKN HKY HN HY
    subst e1 e2 e3 e4
    go_wp2_with (refine wpList_store_row rfl 44 (.tmp 2) (.tmp 43) rfl w.heap.size zS rfl rfl 44 zS R9.out infoZ rfl zS_one ?_)
    refine bodyPost_ret (v := .tuple #[.agg zS, .int .i64 9]) (results_row2 rfl _ _ w.heap.size 44 zS (0, 0) _ rfl RA.out Tryz.underlying44 rfl infoZ _ rfl) rfl ?_
    exact ⟨rfl, BA.out⟩
  · have e1 := HKY.out rfl
    by_cases hyd : y = d
    · obtain ⟨e3, e4⟩ := HY.out ⟨rfl, hyd⟩
      clear HKN HKY HN HY
      subst e1 e3 e4 hyd
      have s1 : (y.toList != y.toList) = false := by rw [bne, beq_self_eq_true]; rfl
      go_wp2_with (first
        | (refine wpList_load_row rfl 44 (.tmp 5) rfl w5.heap.size rfl 44 C (0, 0) _ Q9.out Tryz.underlying44 rfl HCI.out ?_)
        | (refine wpList_store_row rfl 44 (.tmp 2) (.tmp 44) rfl w.heap.size C rfl rfl 44 zS R9.out HCI.out HCZ.out HCO.out ?_))
      refine bodyPost_ret (v := .tuple #[.agg C, .int .i64 0]) (results_row2 rfl _ _ w.heap.size 44 C (0, 0) _ rfl RB.out Tryz.underlying44 rfl HCI.out _ rfl) rfl ?_
      exact ⟨rfl, BB.out⟩
    · obtain ⟨e3, e4⟩ := HN.out (fun h => hyd h.2)
      obtain ⟨s1, s2⟩ := ne_strS hyd
      clear HKN HKY HN HY hyd
      subst e1 e3 e4
      go_wp2_with (refine wpList_store_row rfl 44 (.tmp 2) (.tmp 43) rfl w.heap.size zS rfl rfl 44 zS R9.out infoZ rfl zS_one ?_)
      refine bodyPost_ret (v := .tuple #[.agg zS, .int .i64 9]) (results_row2 rfl _ _ w.heap.size 44 zS (0, 0) _ rfl RA.out Tryz.underlying44 rfl infoZ _ rfl) rfl ?_
      exact ⟨rfl, BA.out⟩
end Go.Proofs.YtlchjohaacbkpaaGreatDoor.Rs
