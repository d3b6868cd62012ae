/- Contracts of package node's taking: an item, a kid, a volume. -/
import Derived.Test.YtlpejbbmemhloaaGreatDoorNdU
namespace Go.Proofs.YtlpejbbmemhloaaGreatDoor.Nd
set_option linter.unusedVariables false
open Go.ChangeShapes Go.WideShapes Go.ChangeAt Go.RowKit
open Rg
open Pk (be num be_length num_lt u8s u8s_length)
theorem bs_le {l : List UInt8} {s : ByteArray} (h : l.length ≤ s.data.toList.length) (h4 : s.size ≤ maxLen) : (bs l).size ≤ maxLen := by
  rw [bs_size]
  have e : s.data.toList.length = s.size := Array.length_toList
  omega
theorem two_cells (a b : Value) (ha : a.oneCell' = true) (hb : b.oneCell' = true) : (#[a, b] : Array Value).all (·.oneCell') = true := by simp [ha, hb]
set_option maxHeartbeats 2000000 in
theorem item_tk {w : World} {q : Nat} {s : ByteArray} {b : Bool} (h : TkR w q s b) (h4 : s.size ≤ maxLen) :
    Calls Tryz.prog 151 #[.pointer (some ⟨q, 0, none⟩)] w fun e w' => e = .returned (.agg #[.string (cI.tk (s.data.toList, b)).1.k, .string (cI.tk (s.data.toList, b)).1.v]) ∧ TkR w' q (bs (cI.tk (s.data.toList, b)).2.1) (cI.tk (s.data.toList, b)).2.2 ∧ w.grownBy w' (some q) := by
  have S0 : Below w.heap.size w (w.alloc (.cells #[.string ⟨#[]⟩, .string ⟨#[]⟩] 63)) := (Below.refl _ _).alloc (Nat.le_refl _) _
  have hq := h.lt
  have HQ := Lib.hid (heap_alloc_new w (.cells #[.string ⟨#[]⟩, .string ⟨#[]⟩] 63))
  have HT := Lib.hid (h.below S0)
  have HG := Lib.hid (grown_of_below (row := some q) S0)
  clear h S0
  have hX : cI.tk (s.data.toList, b) = (⟨bs (tkTxt (s.data.toList, b)).1, bs (tkTxt ((bs (tkTxt (s.data.toList, b)).2.1).data.toList, (tkTxt (s.data.toList, b)).2.2)).1⟩, (tkTxt ((bs (tkTxt (s.data.toList, b)).2.1).data.toList, (tkTxt (s.data.toList, b)).2.2)).2) := rfl
  rw [hX]
  dsimp only
  clear hX
  have h5 := bs_le (txt_less (s.data.toList, b)) h4
  have HC1 := Lib.hid (show ∀ w, TkR w q s b → _ from fun w h => text_tk h h4)
  generalize bs (tkTxt (s.data.toList, b)).1 = V1 at *
  generalize bs (tkTxt (s.data.toList, b)).2.1 = R1 at *
  generalize (tkTxt (s.data.toList, b)).2.2 = B1 at *
  have HC2 := Lib.hid (show ∀ w, TkR w q R1 B1 → _ from fun w h => text_tk h h5)
  generalize bs (tkTxt (R1.data.toList, B1)).1 = V2 at *
  generalize bs (tkTxt (R1.data.toList, B1)).2.1 = R2 at *
  generalize (tkTxt (R1.data.toList, B1)).2.2 = B2 at *
  clear h4 h5
  go_enter Tryz.func151, Tryz.ntmps151
  go_wp2_with fail
  generalize w.alloc _ = w1 at *
  go_at_call 172
  refine (HC1.out _ HT.out).mono ?_
  rintro e w2 ⟨rfl, ht, hg⟩
  have HT2 := Lib.hid ht
  have HQ2 := Lib.hid ((hg.block w.heap.size (row_lt HQ.out) (fun e => Nat.ne_of_lt hq (Option.some.inj e).symm)).trans HQ.out)
  have HG2 := Lib.hid (grown_then HG.out hg)
  clear ht hg HT HQ HG
  go_wp2_with fail
  go_at_call 172
  refine (HC2.out _ HT2.out).mono ?_
  rintro e w3 ⟨rfl, ht, hg⟩
  have HT3 := Lib.hid ht
  have HQ3 := Lib.hid ((hg.block w.heap.size (row_lt HQ2.out) (fun e => Nat.ne_of_lt hq (Option.some.inj e).symm)).trans HQ2.out)
  have HG3 := Lib.hid (grown_then HG2.out hg)
  clear ht hg HT2 HQ2 HG2
  go_wp2_with (refine wpList_store_row rfl 63 (.tmp 2) (.tmp 7) rfl w.heap.size #[.string V1, .string V2] rfl rfl 63 #[.string ⟨#[]⟩, .string ⟨#[]⟩] HQ3.out (by kernel_rfl) rfl (two_cells _ _ rfl rfl) ?_)
  have hg2 := setRow_heap' (cs := #[.string V1, .string V2]) HQ3.out
  refine bodyPost_ret (v := .agg #[.string V1, .string V2]) (results_cell_row rfl _ _ w.heap.size 63 #[.string V1, .string V2] (0, 0) _ rfl hg2 Tryz.underlying63 rfl (by kernel_rfl)) rfl ?_
  exact ⟨rfl, ((grown_setRow w3 w.heap.size _).block q (row_lt HT3.out) (fun e => Nat.ne_of_lt hq (Option.some.inj e))).trans HT3.out, grown_new HG3.out (grown_setRow w3 w.heap.size _) (Nat.le_refl _)⟩
theorem pair_tk {α β : Type} {A : Cod α} {B : Cod β} {s s1 s2 : S} {x : α} {y : β} (h1 : A.tk s = (x, s1)) (h2 : B.tk s1 = (y, s2)) : (A.pair B).tk s = ((x, y), s2) := by
  show (((A.tk s).1, (B.tk (A.tk s).2).1), (B.tk (A.tk s).2).2) = _
  rw [h1]; dsimp only; rw [h2]
theorem as_tk {α β : Type} {A : Cod α} {f : α → β} {g : β → α} {s s1 : S} {x : α} (h : A.tk s = (x, s1)) : (A.as f g).tk s = (f x, s1) := by
  show (f (A.tk s).1, (A.tk s).2) = _
  rw [h]
theorem fold_put : ∀ (vs zs pre : List Value) (p k : Nat), zs.length = vs.length → pre.length = p + k → List.foldl (fun (cs : Array Value) (x : Value × Nat) => cs.setIfInBounds (p + x.snd) x.fst) (pre ++ zs).toArray (vs.zipIdx k) = (pre ++ vs).toArray
  | [], [], pre, p, k, _, _ => rfl
  | [], z :: zs, pre, p, k, h, _ => by cases h
  | v :: vs, [], pre, p, k, h, _ => by cases h
  | v :: vs, z :: zs, pre, p, k, h, hp => by
    rw [List.zipIdx_cons, List.foldl_cons]
    have e : (pre ++ z :: zs).toArray.setIfInBounds (p + k) v = ((pre ++ [v]) ++ zs).toArray := by
      rw [List.setIfInBounds_toArray, List.set_append_right _ _ (by omega), show p + k - pre.length = 0 by omega, List.set_cons_zero, List.append_assoc]; rfl
    show List.foldl _ ((pre ++ z :: zs).toArray.setIfInBounds (p + k) v) _ = _
    rw [e, fold_put vs zs (pre ++ [v]) p (k + 1) (by simpa using h) (by rw [List.length_append, List.length_singleton]; omega), List.append_assoc]; rfl
theorem num_width (k : Nat) (s : S) : (tkNum k s).1 < 256 ^ k := by
  unfold tkNum; split
  · have := num_lt (s.1.take k)
    have h2 : (s.1.take k).length = k := by rw [List.length_take]; omega
    rwa [h2] at this
  · exact Nat.pow_pos (by omega)
def encK (x : Kd) : List Value := .string x.k :: .int .u32 x.n :: u8s x.hs
def encV (x : Vo) : List Value := .string x.nm :: .int .u8 x.kd :: .string x.fr :: .int .u64 x.bn :: .int .u32 x.rt :: u8s x.hs
set_option maxRecDepth 100000 in
set_option maxHeartbeats 4000000 in
theorem kid_tk_at {w : World} {q : Nat} {L0 : List UInt8} {B0 : Bool} (h : TkR w q (bs L0) B0) (hm0 : (bs L0).size ≤ maxLen) :
    Calls Tryz.prog 152 #[.pointer (some ⟨q, 0, none⟩)] w fun e w' => e = .returned (.agg (encK (cK.tk (L0, B0)).1).toArray) ∧ TkR w' q (bs (cK.tk (L0, B0)).2.1) (cK.tk (L0, B0)).2.2 ∧ w.grownBy w' (some q) := by
  have S0 : Below w.heap.size w (w.alloc (.cells #[.string ⟨#[]⟩, .int .u32 0, .int .u8 0, .int .u8 0, .int .u8 0, .int .u8 0, .int .u8 0, .int .u8 0, .int .u8 0, .int .u8 0, .int .u8 0, .int .u8 0, .int .u8 0, .int .u8 0, .int .u8 0, .int .u8 0, .int .u8 0, .int .u8 0, .int .u8 0, .int .u8 0, .int .u8 0, .int .u8 0, .int .u8 0, .int .u8 0, .int .u8 0, .int .u8 0, .int .u8 0, .int .u8 0, .int .u8 0, .int .u8 0, .int .u8 0, .int .u8 0, .int .u8 0, .int .u8 0] 45)) := (Below.refl _ _).alloc (Nat.le_refl _) _
  have hq := h.lt
  have HQ0 := Lib.hid (heap_alloc_new w (.cells #[.string ⟨#[]⟩, .int .u32 0, .int .u8 0, .int .u8 0, .int .u8 0, .int .u8 0, .int .u8 0, .int .u8 0, .int .u8 0, .int .u8 0, .int .u8 0, .int .u8 0, .int .u8 0, .int .u8 0, .int .u8 0, .int .u8 0, .int .u8 0, .int .u8 0, .int .u8 0, .int .u8 0, .int .u8 0, .int .u8 0, .int .u8 0, .int .u8 0, .int .u8 0, .int .u8 0, .int .u8 0, .int .u8 0, .int .u8 0, .int .u8 0, .int .u8 0, .int .u8 0, .int .u8 0, .int .u8 0] 45))
  have HT0 := Lib.hid (h.below S0)
  have HG0 := Lib.hid (grown_of_below (row := some q) S0)
  clear h S0
  obtain ⟨V1, ⟨L1, B1⟩, e1⟩ : ∃ V s, tkTxt (L0, B0) = (V, s) := ⟨_, _, rfl⟩
  have l1 := txt_less (L0, B0)
  rw [e1] at l1
  have hm1 : (bs L1).size ≤ maxLen := bs_le (s := bs L0) l1 hm0
  have HC1 := Lib.hid (show ∀ w, TkR w q (bs L0) B0 → Calls Tryz.prog 172 #[.pointer (some ⟨q, 0, none⟩)] w fun e w' => e = .returned (.string (bs V1)) ∧ TkR w' q (bs L1) B1 ∧ w.grownBy w' (some q) from fun w h => by
    have c := text_tk h hm0
    rw [bs_data, e1] at c
    exact c)
  obtain ⟨V2, ⟨L2, B2⟩, e2⟩ : ∃ V s, tkNum 4 (L1, B1) = (V, s) := ⟨_, _, rfl⟩
  have l2 := num_less 4 (L1, B1)
  rw [e2] at l2
  have hm2 : (bs L2).size ≤ maxLen := bs_le (s := bs L1) l2 hm1
  have v2 := num_width 4 (L1, B1)
  rw [e2] at v2
  have HC2 := Lib.hid (show ∀ w, TkR w q (bs L1) B1 → Calls Tryz.prog 150 #[.pointer (some ⟨q, 0, none⟩), .int .i64 4] w fun e w' => e = .returned (.int .u64 (V2 : Nat)) ∧ TkR w' q (bs L2) B2 ∧ w.grownBy w' (some q) from fun w h => by
    have c := number_tk h 4 (by omega) (by omega) hm1
    rw [bs_data, e2] at c
    exact c)
  obtain ⟨V3, ⟨L3, B3⟩, e3⟩ : ∃ V s, tkHash (L2, B2) = (V, s) := ⟨_, _, rfl⟩
  have l3 := hash_less (L2, B2)
  rw [e3] at l3
  have hm3 : (bs L3).size ≤ maxLen := bs_le (s := bs L2) l3 hm2
  have v3 := tkHash_len (L2, B2)
  rw [e3] at v3
  have HC3 := Lib.hid (show ∀ w, TkR w q (bs L2) B2 → Calls Tryz.prog 173 #[.pointer (some ⟨q, 0, none⟩)] w fun e w' => e = .returned (.agg (u8s V3).toArray) ∧ TkR w' q (bs L3) B3 ∧ w.grownBy w' (some q) from fun w h => by
    have c := hash_tk h
    rw [bs_data, e3] at c
    exact c)
  have hX : cK.tk (L0, B0) = (⟨bs V1, V2, V3⟩, (L3, B3)) := as_tk (A := cTxt.pair ((cNum 4).pair cHash)) (pair_tk (A := cTxt) e1 (pair_tk (A := cNum 4) (B := cHash) e2 e3))
  rw [hX]
  dsimp only
  clear hX e1 l1 e2 l2 e3 l3 hm0 hm1 hm2 hm3
  generalize bs V1 = V1 at *
  have HI := Lib.hid (show (Tryz.prog.info? 45).map (·.size) = some ((Value.string V1 :: Value.int .u32 (V2 : Int) :: u8s V3).toArray).size by rw [List.size_toArray]; simp only [List.length_cons, u8s_length, v3]; kernel_rfl)
  have HO := Lib.hid (show (#[.string ⟨#[]⟩, .int .u32 0, .int .u8 0, .int .u8 0, .int .u8 0, .int .u8 0, .int .u8 0, .int .u8 0, .int .u8 0, .int .u8 0, .int .u8 0, .int .u8 0, .int .u8 0, .int .u8 0, .int .u8 0, .int .u8 0, .int .u8 0, .int .u8 0, .int .u8 0, .int .u8 0, .int .u8 0, .int .u8 0, .int .u8 0, .int .u8 0, .int .u8 0, .int .u8 0, .int .u8 0, .int .u8 0, .int .u8 0, .int .u8 0, .int .u8 0, .int .u8 0, .int .u8 0, .int .u8 0] : Array Value).size = ((Value.string V1 :: Value.int .u32 (V2 : Int) :: u8s V3).toArray).size by simp only [List.size_toArray, List.length_cons, u8s_length, v3]; rfl)
  have HONE := Lib.hid (show ((Value.string V1 :: Value.int .u32 (V2 : Int) :: u8s V3).toArray).all (·.oneCell') = true by have := u8s_one V3; simpa [Array.all_eq_true', Value.oneCell'] using this)
  have hFP : List.foldl (fun (cs : Array Value) (x : Value × Nat) => cs.setIfInBounds (2 + x.snd) x.fst) #[.string V1, .int .u32 (V2 : Int), .int .u8 0, .int .u8 0, .int .u8 0, .int .u8 0, .int .u8 0, .int .u8 0, .int .u8 0, .int .u8 0, .int .u8 0, .int .u8 0, .int .u8 0, .int .u8 0, .int .u8 0, .int .u8 0, .int .u8 0, .int .u8 0, .int .u8 0, .int .u8 0, .int .u8 0, .int .u8 0, .int .u8 0, .int .u8 0, .int .u8 0, .int .u8 0, .int .u8 0, .int .u8 0, .int .u8 0, .int .u8 0, .int .u8 0, .int .u8 0, .int .u8 0, .int .u8 0] (u8s V3).zipIdx = (Value.string V1 :: Value.int .u32 (V2 : Int) :: u8s V3).toArray := fold_put (u8s V3) (u8s (List.replicate 32 0)) [.string V1, .int .u32 (V2 : Int)] 2 0 (by rw [u8s_length, u8s_length, List.length_replicate, v3]) rfl
  generalize hCC : (Value.string V1 :: Value.int .u32 (V2 : Int) :: u8s V3).toArray = CC at *
  have HFP := Lib.hid hFP
  have HCC := Lib.hid hCC
  clear hFP hCC
  go_enter Tryz.func152, Tryz.ntmps152
  go_wp2_with fail
  generalize w.alloc _ = w0 at *
  go_at_call 172
  refine (HC1.out _ HT0.out).mono ?_
  rintro e w1 ⟨rfl, ht, hg⟩
  have HT1 := Lib.hid ht
  have HQ1 := Lib.hid ((hg.block w.heap.size (row_lt HQ0.out) (fun e => Nat.ne_of_lt hq (Option.some.inj e).symm)).trans HQ0.out)
  have HG1 := Lib.hid (grown_then HG0.out hg)
  clear ht hg HT0 HQ0 HG0
  go_wp2_with fail
  go_at_call 150
  refine (HC2.out _ HT1.out).mono ?_
  rintro e w2 ⟨rfl, ht, hg⟩
  have HT2 := Lib.hid ht
  have HQ2 := Lib.hid ((hg.block w.heap.size (row_lt HQ1.out) (fun e => Nat.ne_of_lt hq (Option.some.inj e).symm)).trans HQ1.out)
  have HG2 := Lib.hid (grown_then HG1.out hg)
  clear ht hg HT1 HQ1 HG1
  go_wp2_with fail
  go_at_call 173
  refine (HC3.out _ HT2.out).mono ?_
  rintro e w3 ⟨rfl, ht, hg⟩
  have HT3 := Lib.hid ht
  have HQ3 := Lib.hid ((hg.block w.heap.size (row_lt HQ2.out) (fun e => Nat.ne_of_lt hq (Option.some.inj e).symm)).trans HQ2.out)
  have HG3 := Lib.hid (grown_then HG2.out hg)
  clear ht hg HT2 HQ2 HG2
  have hfp := HFP.out
  have hz1 : (u8s V3).length = 32 := by rw [u8s_length, v3]
  have hz2 : V3.length = 32 := v3
  go_wp2_with (refine wpList_store_row rfl 45 (.tmp 2) (.tmp 10) rfl w.heap.size CC rfl rfl 45 #[.string ⟨#[]⟩, .int .u32 0, .int .u8 0, .int .u8 0, .int .u8 0, .int .u8 0, .int .u8 0, .int .u8 0, .int .u8 0, .int .u8 0, .int .u8 0, .int .u8 0, .int .u8 0, .int .u8 0, .int .u8 0, .int .u8 0, .int .u8 0, .int .u8 0, .int .u8 0, .int .u8 0, .int .u8 0, .int .u8 0, .int .u8 0, .int .u8 0, .int .u8 0, .int .u8 0, .int .u8 0, .int .u8 0, .int .u8 0, .int .u8 0, .int .u8 0, .int .u8 0, .int .u8 0, .int .u8 0] HQ3.out HI.out HO.out HONE.out ?_)
  have hg2 := setRow_heap' (cs := CC) HQ3.out
  refine bodyPost_ret (v := .agg CC) (results_cell_row rfl _ _ w.heap.size 45 CC (0, 0) _ rfl hg2 Tryz.underlying45 rfl HI.out) rfl ?_
  exact ⟨by rw [← HCC.out]; rfl, ((grown_setRow w3 w.heap.size _).block q (row_lt HT3.out) (fun e => Nat.ne_of_lt hq (Option.some.inj e))).trans HT3.out, grown_new HG3.out (grown_setRow w3 w.heap.size _) (Nat.le_refl _)⟩
theorem kid_tk {w : World} {q : Nat} {s : ByteArray} {b : Bool} (h : TkR w q s b) (h4 : s.size ≤ maxLen) :
    Calls Tryz.prog 152 #[.pointer (some ⟨q, 0, none⟩)] w fun e w' => e = .returned (.agg (encK (cK.tk (s.data.toList, b)).1).toArray) ∧ TkR w' q (bs (cK.tk (s.data.toList, b)).2.1) (cK.tk (s.data.toList, b)).2.2 ∧ w.grownBy w' (some q) :=
  kid_tk_at (L0 := s.data.toList) h h4
set_option maxRecDepth 100000 in
set_option maxHeartbeats 4000000 in
theorem volume_tk_at {w : World} {q : Nat} {L0 : List UInt8} {B0 : Bool} (h : TkR w q (bs L0) B0) (hm0 : (bs L0).size ≤ maxLen) :
    Calls Tryz.prog 153 #[.pointer (some ⟨q, 0, none⟩)] w fun e w' => e = .returned (.agg (encV (cV.tk (L0, B0)).1).toArray) ∧ TkR w' q (bs (cV.tk (L0, B0)).2.1) (cV.tk (L0, B0)).2.2 ∧ w.grownBy w' (some q) := by
  have S0 : Below w.heap.size w (w.alloc (.cells #[.string ⟨#[]⟩, .int .u8 0, .string ⟨#[]⟩, .int .u64 0, .int .u32 0, .int .u8 0, .int .u8 0, .int .u8 0, .int .u8 0, .int .u8 0, .int .u8 0, .int .u8 0, .int .u8 0, .int .u8 0, .int .u8 0, .int .u8 0, .int .u8 0, .int .u8 0, .int .u8 0, .int .u8 0, .int .u8 0, .int .u8 0, .int .u8 0, .int .u8 0, .int .u8 0, .int .u8 0, .int .u8 0, .int .u8 0, .int .u8 0, .int .u8 0, .int .u8 0, .int .u8 0, .int .u8 0, .int .u8 0, .int .u8 0, .int .u8 0, .int .u8 0] 121)) := (Below.refl _ _).alloc (Nat.le_refl _) _
  have hq := h.lt
  have HQ0 := Lib.hid (heap_alloc_new w (.cells #[.string ⟨#[]⟩, .int .u8 0, .string ⟨#[]⟩, .int .u64 0, .int .u32 0, .int .u8 0, .int .u8 0, .int .u8 0, .int .u8 0, .int .u8 0, .int .u8 0, .int .u8 0, .int .u8 0, .int .u8 0, .int .u8 0, .int .u8 0, .int .u8 0, .int .u8 0, .int .u8 0, .int .u8 0, .int .u8 0, .int .u8 0, .int .u8 0, .int .u8 0, .int .u8 0, .int .u8 0, .int .u8 0, .int .u8 0, .int .u8 0, .int .u8 0, .int .u8 0, .int .u8 0, .int .u8 0, .int .u8 0, .int .u8 0, .int .u8 0, .int .u8 0] 121))
  have HT0 := Lib.hid (h.below S0)
  have HG0 := Lib.hid (grown_of_below (row := some q) S0)
  clear h S0
  obtain ⟨V1, ⟨L1, B1⟩, e1⟩ : ∃ V s, tkTxt (L0, B0) = (V, s) := ⟨_, _, rfl⟩
  have l1 := txt_less (L0, B0)
  rw [e1] at l1
  have hm1 : (bs L1).size ≤ maxLen := bs_le (s := bs L0) l1 hm0
  have HC1 := Lib.hid (show ∀ w, TkR w q (bs L0) B0 → Calls Tryz.prog 172 #[.pointer (some ⟨q, 0, none⟩)] w fun e w' => e = .returned (.string (bs V1)) ∧ TkR w' q (bs L1) B1 ∧ w.grownBy w' (some q) from fun w h => by
    have c := text_tk h hm0
    rw [bs_data, e1] at c
    exact c)
  obtain ⟨V2, ⟨L2, B2⟩, e2⟩ : ∃ V s, tkTxt (L1, B1) = (V, s) := ⟨_, _, rfl⟩
  have l2 := txt_less (L1, B1)
  rw [e2] at l2
  have hm2 : (bs L2).size ≤ maxLen := bs_le (s := bs L1) l2 hm1
  have HC2 := Lib.hid (show ∀ w, TkR w q (bs L1) B1 → Calls Tryz.prog 172 #[.pointer (some ⟨q, 0, none⟩)] w fun e w' => e = .returned (.string (bs V2)) ∧ TkR w' q (bs L2) B2 ∧ w.grownBy w' (some q) from fun w h => by
    have c := text_tk h hm1
    rw [bs_data, e2] at c
    exact c)
  obtain ⟨V3, ⟨L3, B3⟩, e3⟩ : ∃ V s, tkNum 1 (L2, B2) = (V, s) := ⟨_, _, rfl⟩
  have l3 := num_less 1 (L2, B2)
  rw [e3] at l3
  have hm3 : (bs L3).size ≤ maxLen := bs_le (s := bs L2) l3 hm2
  have v3 := num_byte (L2, B2)
  rw [e3] at v3
  have HC3 := Lib.hid (show ∀ w, TkR w q (bs L2) B2 → Calls Tryz.prog 150 #[.pointer (some ⟨q, 0, none⟩), .int .i64 1] w fun e w' => e = .returned (.int .u64 (V3 : Nat)) ∧ TkR w' q (bs L3) B3 ∧ w.grownBy w' (some q) from fun w h => by
    have c := number_tk h 1 (by omega) (by omega) hm2
    rw [bs_data, e3] at c
    exact c)
  obtain ⟨V4, ⟨L4, B4⟩, e4⟩ : ∃ V s, tkNum 8 (L3, B3) = (V, s) := ⟨_, _, rfl⟩
  have l4 := num_less 8 (L3, B3)
  rw [e4] at l4
  have hm4 : (bs L4).size ≤ maxLen := bs_le (s := bs L3) l4 hm3
  have v4 := num_width 8 (L3, B3)
  rw [e4] at v4
  have HC4 := Lib.hid (show ∀ w, TkR w q (bs L3) B3 → Calls Tryz.prog 150 #[.pointer (some ⟨q, 0, none⟩), .int .i64 8] w fun e w' => e = .returned (.int .u64 (V4 : Nat)) ∧ TkR w' q (bs L4) B4 ∧ w.grownBy w' (some q) from fun w h => by
    have c := number_tk h 8 (by omega) (by omega) hm3
    rw [bs_data, e4] at c
    exact c)
  obtain ⟨V5, ⟨L5, B5⟩, e5⟩ : ∃ V s, tkNum 4 (L4, B4) = (V, s) := ⟨_, _, rfl⟩
  have l5 := num_less 4 (L4, B4)
  rw [e5] at l5
  have hm5 : (bs L5).size ≤ maxLen := bs_le (s := bs L4) l5 hm4
  have v5 := num_width 4 (L4, B4)
  rw [e5] at v5
  have HC5 := Lib.hid (show ∀ w, TkR w q (bs L4) B4 → Calls Tryz.prog 150 #[.pointer (some ⟨q, 0, none⟩), .int .i64 4] w fun e w' => e = .returned (.int .u64 (V5 : Nat)) ∧ TkR w' q (bs L5) B5 ∧ w.grownBy w' (some q) from fun w h => by
    have c := number_tk h 4 (by omega) (by omega) hm4
    rw [bs_data, e5] at c
    exact c)
  obtain ⟨V6, ⟨L6, B6⟩, e6⟩ : ∃ V s, tkHash (L5, B5) = (V, s) := ⟨_, _, rfl⟩
  have l6 := hash_less (L5, B5)
  rw [e6] at l6
  have hm6 : (bs L6).size ≤ maxLen := bs_le (s := bs L5) l6 hm5
  have v6 := tkHash_len (L5, B5)
  rw [e6] at v6
  have HC6 := Lib.hid (show ∀ w, TkR w q (bs L5) B5 → Calls Tryz.prog 173 #[.pointer (some ⟨q, 0, none⟩)] w fun e w' => e = .returned (.agg (u8s V6).toArray) ∧ TkR w' q (bs L6) B6 ∧ w.grownBy w' (some q) from fun w h => by
    have c := hash_tk h
    rw [bs_data, e6] at c
    exact c)
  have hX : cV.tk (L0, B0) = (⟨bs V1, V3, bs V2, V4, V5, V6⟩, (L6, B6)) := as_tk (A := cTxt.pair (cTxt.pair ((cNum 1).pair ((cNum 8).pair ((cNum 4).pair cHash))))) (pair_tk (A := cTxt) e1 (pair_tk (A := cTxt) e2 (pair_tk (A := cNum 1) e3 (pair_tk (A := cNum 8) e4 (pair_tk (A := cNum 4) (B := cHash) e5 e6)))))
  rw [hX]
  dsimp only
  clear hX e1 l1 e2 l2 e3 l3 e4 l4 e5 l5 e6 l6 hm0 hm1 hm2 hm3 hm4 hm5 hm6
  generalize bs V1 = V1 at *
  generalize bs V2 = V2 at *
  have HI := Lib.hid (show (Tryz.prog.info? 121).map (·.size) = some ((Value.string V1 :: Value.int .u8 (V3 : Int) :: Value.string V2 :: Value.int .u64 (V4 : Int) :: Value.int .u32 (V5 : Int) :: u8s V6).toArray).size by rw [List.size_toArray]; simp only [List.length_cons, u8s_length, v6]; kernel_rfl)
  have HO := Lib.hid (show (#[.string ⟨#[]⟩, .int .u8 0, .string ⟨#[]⟩, .int .u64 0, .int .u32 0, .int .u8 0, .int .u8 0, .int .u8 0, .int .u8 0, .int .u8 0, .int .u8 0, .int .u8 0, .int .u8 0, .int .u8 0, .int .u8 0, .int .u8 0, .int .u8 0, .int .u8 0, .int .u8 0, .int .u8 0, .int .u8 0, .int .u8 0, .int .u8 0, .int .u8 0, .int .u8 0, .int .u8 0, .int .u8 0, .int .u8 0, .int .u8 0, .int .u8 0, .int .u8 0, .int .u8 0, .int .u8 0, .int .u8 0, .int .u8 0, .int .u8 0, .int .u8 0] : Array Value).size = ((Value.string V1 :: Value.int .u8 (V3 : Int) :: Value.string V2 :: Value.int .u64 (V4 : Int) :: Value.int .u32 (V5 : Int) :: u8s V6).toArray).size by simp only [List.size_toArray, List.length_cons, u8s_length, v6]; rfl)
  have HONE := Lib.hid (show ((Value.string V1 :: Value.int .u8 (V3 : Int) :: Value.string V2 :: Value.int .u64 (V4 : Int) :: Value.int .u32 (V5 : Int) :: u8s V6).toArray).all (·.oneCell') = true by have := u8s_one V6; simpa [Array.all_eq_true', Value.oneCell'] using this)
  have hFP : List.foldl (fun (cs : Array Value) (x : Value × Nat) => cs.setIfInBounds (5 + x.snd) x.fst) #[.string V1, .int .u8 (V3 : Int), .string V2, .int .u64 (V4 : Int), .int .u32 (V5 : Int), .int .u8 0, .int .u8 0, .int .u8 0, .int .u8 0, .int .u8 0, .int .u8 0, .int .u8 0, .int .u8 0, .int .u8 0, .int .u8 0, .int .u8 0, .int .u8 0, .int .u8 0, .int .u8 0, .int .u8 0, .int .u8 0, .int .u8 0, .int .u8 0, .int .u8 0, .int .u8 0, .int .u8 0, .int .u8 0, .int .u8 0, .int .u8 0, .int .u8 0, .int .u8 0, .int .u8 0, .int .u8 0, .int .u8 0, .int .u8 0, .int .u8 0, .int .u8 0] (u8s V6).zipIdx = (Value.string V1 :: Value.int .u8 (V3 : Int) :: Value.string V2 :: Value.int .u64 (V4 : Int) :: Value.int .u32 (V5 : Int) :: u8s V6).toArray := fold_put (u8s V6) (u8s (List.replicate 32 0)) [.string V1, .int .u8 (V3 : Int), .string V2, .int .u64 (V4 : Int), .int .u32 (V5 : Int)] 5 0 (by rw [u8s_length, u8s_length, List.length_replicate, v6]) rfl
  generalize hCC : (Value.string V1 :: Value.int .u8 (V3 : Int) :: Value.string V2 :: Value.int .u64 (V4 : Int) :: Value.int .u32 (V5 : Int) :: u8s V6).toArray = CC at *
  have HFP := Lib.hid hFP
  have HCC := Lib.hid hCC
  clear hFP hCC
  go_enter Tryz.func153, Tryz.ntmps153
  go_wp2_with fail
  generalize w.alloc _ = w0 at *
  go_at_call 172
  refine (HC1.out _ HT0.out).mono ?_
  rintro e w1 ⟨rfl, ht, hg⟩
  have HT1 := Lib.hid ht
  have HQ1 := Lib.hid ((hg.block w.heap.size (row_lt HQ0.out) (fun e => Nat.ne_of_lt hq (Option.some.inj e).symm)).trans HQ0.out)
  have HG1 := Lib.hid (grown_then HG0.out hg)
  clear ht hg HT0 HQ0 HG0
  go_wp2_with fail
  go_at_call 172
  refine (HC2.out _ HT1.out).mono ?_
  rintro e w2 ⟨rfl, ht, hg⟩
  have HT2 := Lib.hid ht
  have HQ2 := Lib.hid ((hg.block w.heap.size (row_lt HQ1.out) (fun e => Nat.ne_of_lt hq (Option.some.inj e).symm)).trans HQ1.out)
  have HG2 := Lib.hid (grown_then HG1.out hg)
  clear ht hg HT1 HQ1 HG1
  go_wp2_with fail
  go_at_call 150
  refine (HC3.out _ HT2.out).mono ?_
  rintro e w3 ⟨rfl, ht, hg⟩
  have HT3 := Lib.hid ht
  have HQ3 := Lib.hid ((hg.block w.heap.size (row_lt HQ2.out) (fun e => Nat.ne_of_lt hq (Option.some.inj e).symm)).trans HQ2.out)
  have HG3 := Lib.hid (grown_then HG2.out hg)
  clear ht hg HT2 HQ2 HG2
  go_wp2_with fail
  go_at_call 150
  refine (HC4.out _ HT3.out).mono ?_
  rintro e w4 ⟨rfl, ht, hg⟩
  have HT4 := Lib.hid ht
  have HQ4 := Lib.hid ((hg.block w.heap.size (row_lt HQ3.out) (fun e => Nat.ne_of_lt hq (Option.some.inj e).symm)).trans HQ3.out)
  have HG4 := Lib.hid (grown_then HG3.out hg)
  clear ht hg HT3 HQ3 HG3
  go_wp2_with fail
  go_at_call 150
  refine (HC5.out _ HT4.out).mono ?_
  rintro e w5 ⟨rfl, ht, hg⟩
  have HT5 := Lib.hid ht
  have HQ5 := Lib.hid ((hg.block w.heap.size (row_lt HQ4.out) (fun e => Nat.ne_of_lt hq (Option.some.inj e).symm)).trans HQ4.out)
  have HG5 := Lib.hid (grown_then HG4.out hg)
  clear ht hg HT4 HQ4 HG4
  go_wp2_with fail
  go_at_call 173
  refine (HC6.out _ HT5.out).mono ?_
  rintro e w6 ⟨rfl, ht, hg⟩
  have HT6 := Lib.hid ht
  have HQ6 := Lib.hid ((hg.block w.heap.size (row_lt HQ5.out) (fun e => Nat.ne_of_lt hq (Option.some.inj e).symm)).trans HQ5.out)
  have HG6 := Lib.hid (grown_then HG5.out hg)
  clear ht hg HT5 HQ5 HG5
  have hfp := HFP.out
  have hz1 : (u8s V6).length = 32 := by rw [u8s_length, v6]
  have hz2 : V6.length = 32 := v6
  go_wp2_with (refine wpList_store_row rfl 121 (.tmp 2) (.tmp 17) rfl w.heap.size CC rfl rfl 121 #[.string ⟨#[]⟩, .int .u8 0, .string ⟨#[]⟩, .int .u64 0, .int .u32 0, .int .u8 0, .int .u8 0, .int .u8 0, .int .u8 0, .int .u8 0, .int .u8 0, .int .u8 0, .int .u8 0, .int .u8 0, .int .u8 0, .int .u8 0, .int .u8 0, .int .u8 0, .int .u8 0, .int .u8 0, .int .u8 0, .int .u8 0, .int .u8 0, .int .u8 0, .int .u8 0, .int .u8 0, .int .u8 0, .int .u8 0, .int .u8 0, .int .u8 0, .int .u8 0, .int .u8 0, .int .u8 0, .int .u8 0, .int .u8 0, .int .u8 0, .int .u8 0] HQ6.out HI.out HO.out HONE.out ?_)
  have hg2 := setRow_heap' (cs := CC) HQ6.out
  refine bodyPost_ret (v := .agg CC) (results_cell_row rfl _ _ w.heap.size 121 CC (0, 0) _ rfl hg2 Tryz.underlying121 rfl HI.out) rfl ?_
  exact ⟨by rw [← HCC.out]; rfl, ((grown_setRow w6 w.heap.size _).block q (row_lt HT6.out) (fun e => Nat.ne_of_lt hq (Option.some.inj e))).trans HT6.out, grown_new HG6.out (grown_setRow w6 w.heap.size _) (Nat.le_refl _)⟩
theorem volume_tk {w : World} {q : Nat} {s : ByteArray} {b : Bool} (h : TkR w q s b) (h4 : s.size ≤ maxLen) :
    Calls Tryz.prog 153 #[.pointer (some ⟨q, 0, none⟩)] w fun e w' => e = .returned (.agg (encV (cV.tk (s.data.toList, b)).1).toArray) ∧ TkR w' q (bs (cV.tk (s.data.toList, b)).2.1) (cV.tk (s.data.toList, b)).2.2 ∧ w.grownBy w' (some q) :=
  volume_tk_at (L0 := s.data.toList) h h4
end Go.Proofs.YtlpejbbmemhloaaGreatDoor.Nd
