/- Contracts of package node's filled, sealed, Seal. -/
import Derived.Test.YtlpejbbmemhloaaGreatDoorNdA
import Derived.Test.YtlpejbbmemhloaaGreatDoorNdU
import Derived.Test.YtlpejbbmemhloaaGreatDoorNdC
import Derived.Test.YtlpejbbmemhloaaGreatDoorNdH
import Derived.Test.YtlpejbbmemhloaaGreatDoorShf
import Derived.Test.YtlpejbbmemhloaaGreatDoorSum
import Derived.Test.YtlpejbbmemhloaaGreatDoorTrm
import Derived.Test.YtlpejbbmemhloaaGreatDoorRgS
namespace Go.Proofs.YtlpejbbmemhloaaGreatDoor.Nd
set_option linter.unusedVariables false
open Go.ChangeShapes Go.WideShapes Go.ChangeAt Go.RowKit
open Pk (be num be_length crc psum_any)
theorem repeat_zero : ∀ c : Nat, Lib.repeatL [(0 : UInt8)] c = List.replicate c 0
  | 0 => rfl
  | c + 1 => by rw [List.replicate_succ, ← repeat_zero c]; rfl
theorem repeat_any (c : Nat) (h : c ≤ 512) (w : World) :
    Calls Tryz.prog 141 #[.string ⟨#[0]⟩, .int .i64 c] w fun e w' => e = .returned (.string (bs (List.replicate c 0))) ∧ Below w.heap.size w w' := by
  have := Tryz.strings_Repeat ⟨#[0]⟩ c w (by omega) (by show 1 * c ≤ _; omega)
  rw [show (⟨#[0]⟩ : ByteArray).data.toList = [0] from rfl, repeat_zero] at this
  exact this
theorem filled_any (s : ByteArray) (m : Nat) (h : s.size ≤ m) (hm : m ≤ 512) (w : World) :
    Calls Tryz.prog 110 #[.string s, .int .i64 m] w fun e w' => e = .returned (.string (bs (fillz s.data.toList m))) ∧ Below w.heap.size w w' := by
  have hX : bs (fillz s.data.toList m) = s ++ bs (List.replicate (m - s.size) 0) := by
    unfold fillz
    rw [← bs_app, data_bs]
    have e : s.data.toList.length = s.size := Array.length_toList
    rw [e]
  rw [hX]
  clear hX
  obtain ⟨c, hc⟩ : ∃ c, m = s.size + c := ⟨m - s.size, by omega⟩
  subst hc
  rw [show s.size + c - s.size = c by omega]
  have HC := Lib.hid (fun w => repeat_any c (by omega) w)
  have e1 : ((s.size + c : Nat) : Int) - (s.size : Int) = (c : Int) := by omega
  have hz : (bs (List.replicate c 0)).size ≤ 512 := by rw [bs_size, List.length_replicate]; omega
  have hs : s.size ≤ 512 := by omega
  rw [show ((s.size + c : Nat) : Int) = (s.size : Int) + (c : Int) by omega] at e1 ⊢
  have hc5 : c ≤ 512 := by omega
  clear h hm
  generalize bs (List.replicate c 0) = R at *
  go_enter Tryz.func110, Tryz.ntmps110
  go_wp2_with (go_at_call 141; refine (HC.out _).mono ?_; rintro e w' ⟨rfl, hb⟩)
  go_ret
  exact ⟨rfl, hb⟩
theorem cutB_bs (l : List UInt8) : Tm.cutB (bs l) = bs (cutz l) := rfl
theorem sum_le (l : List UInt8) : (crc l).toNat < 256 ^ 4 := (crc l).isLt
theorem sealed_any (s : ByteArray) (h : s.size ≤ 508) (w : World) :
    Calls Tryz.prog 83 #[.string s] w fun e w' => e = .returned (.string (bs (sealL s.data.toList))) ∧ Below w.heap.size w w' := by
  have hF := fillz_len (l := s.data.toList) (m := 508) (by rw [Array.length_toList]; exact h)
  have HF := Lib.hid (fun w => filled_any s 508 h (by omega) w)
  have hX : sealL s.data.toList = cutz (be 4 (crc (fillz s.data.toList 508)).toNat ++ fillz s.data.toList 508) := rfl
  rw [hX]
  clear hX
  generalize fillz s.data.toList 508 = F at *
  have HS := Lib.hid (show ∀ w, Calls Tryz.prog 54 #[.string (bs F)] w fun e w' => e = .returned (.int .u32 ((crc F).toNat : Nat)) ∧ Below w.heap.size w w' from fun w => psum_any (bs F) w (by rw [bs_size]; omega))
  have HN := Lib.hid (fun w => number_be (crc F).toNat 4 w (by omega) (by omega) (sum_le F))
  have hlt : (crc F).toNat < 4294967296 := (crc F).isLt
  have HT := Lib.hid (show ∀ w, Calls Tryz.prog 111 #[.string (bs (be 4 (crc F).toNat) ++ bs F), .string ⟨#[0]⟩] w fun e w' => e = .returned (.string (bs (cutz (be 4 (crc F).toNat ++ F)))) ∧ w = w' from fun w => by
    rw [bs_app]
    exact Tm.trimRight_any (bs (be 4 (crc F).toNat ++ F)) (by rw [bs_size, List.length_append, be_length]; omega) w)
  have hz1 : (bs (be 4 (crc F).toNat)).size ≤ 4 := by rw [bs_size, be_length]; omega
  have hz2 : (bs F).size ≤ 508 := by rw [bs_size]; omega
  generalize (crc F).toNat = C at *
  generalize bs (be 4 C) = S4 at *
  generalize bs (cutz (be 4 C ++ F)) = R at *
  generalize bs F = FB at *
  clear hF
  go_enter Tryz.func83, Tryz.ntmps83
  go_wp2_with fail
  go_at_call 110
  refine (HF.out _).mono ?_
  rintro e w1 ⟨rfl, hb1⟩
  have B1 := Lib.hid hb1
  clear hb1
  go_wp2_with fail
  go_at_call 54
  refine (HS.out _).mono ?_
  rintro e w2 ⟨rfl, hb2⟩
  have B2 := Lib.hid (B1.out.trans (hb2.mono B1.out.size))
  clear hb2 B1
  go_wp2_with fail
  go_at_call 85
  refine (HN.out _).mono ?_
  rintro e w3 ⟨rfl, hb3⟩
  have B3 := Lib.hid (B2.out.trans (hb3.mono B2.out.size))
  clear hb3 B2
  go_wp2_with fail
  go_at_call 111
  refine (HT.out _).mono ?_
  rintro e w4 ⟨rfl, rfl⟩
  go_wp2_with fail
  go_ret
  exact ⟨rfl, B3.out⟩
/-- Seal: bytes as a block has them; none, if they are too many -/
def slE (n : Nat) : Int := if 508 < n then 2 else 0
def slB (s : ByteArray) : ByteArray := if 508 < s.size then ByteArray.empty else bs (sealL s.data.toList)
theorem seal_any (s : ByteArray) (w : World) :
    Calls Tryz.prog 56 #[.string s] w fun e w' => e = .returned (.tuple #[.string (slB s), .int .i64 (slE s.size)]) ∧ Below w.heap.size w w' := by
  by_cases h : 508 < s.size
  · have HB := Lib.hid (show slB s = ByteArray.empty by unfold slB; rw [if_pos h])
    have HE := Lib.hid (show slE s.size = 2 by unfold slE; rw [if_pos h])
    rw [HB.out, HE.out]
    have q : decide ((508 : Int) < (s.size : Int)) = true := by rw [decide_eq_true_iff]; omega
    clear h
    go_enter Tryz.func56, Tryz.ntmps56
    go_wp2
    go_ret2
    exact ⟨rfl, Below.refl _ _⟩
  · have HB := Lib.hid (show slB s = bs (sealL s.data.toList) by unfold slB; rw [if_neg h])
    have HE := Lib.hid (show slE s.size = 0 by unfold slE; rw [if_neg h])
    rw [HB.out, HE.out]
    have q : decide ((508 : Int) < (s.size : Int)) = false := by rw [decide_eq_false_iff_not]; omega
    have HC := Lib.hid (fun w => sealed_any s (by omega) w)
    generalize bs (sealL s.data.toList) = R at *
    clear h
    go_enter Tryz.func56, Tryz.ntmps56
    go_wp2_with (go_at_call 83; refine (HC.out _).mono ?_; rintro e w' ⟨rfl, hb⟩)
    go_ret2
    exact ⟨rfl, hb⟩
end Go.Proofs.YtlpejbbmemhloaaGreatDoor.Nd
/- Contract of package node's opened. -/
namespace Go.Proofs.YtlpejbbmemhloaaGreatDoor.Nd
set_option linter.unusedVariables false
open Go.ChangeShapes Go.WideShapes Go.ChangeAt Go.RowKit
open Rg
open Pk (be num be_length crc psum_any)
/-- what is opened, and whether it is -/
def OpPost (d : ByteArray) (w : World) (e : Ending) (w' : World) : Prop := ∃ r : ByteArray, e = .returned (.tuple #[.string r, .bool (openL d.data.toList).isSome]) ∧ (∀ l, openL d.data.toList = some l → r = bs l) ∧ Below w.heap.size w w'
theorem below_of_grown {w w1 w2 : World} {q B : Nat} (h : Below B w w1) (hg : w1.grownBy w2 (some q)) (hB : B ≤ w1.heap.size) (hq : B ≤ q) : Below B w w2 :=
  h.grown hg hB (fun k hk => by cases hk; exact hq)
theorem sfx_iff (d : ByteArray) : Tm.sfx d = decide (d.data.toList.getLast? = some 0) := rfl
set_option maxRecDepth 100000 in
set_option maxHeartbeats 2000000 in
theorem opened_any (d : ByteArray) (hd : d.size ≤ 9223372036854775807) (w : World) : Calls Tryz.prog 120 #[.string d] w (OpPost d w) := by
  by_cases h1 : 512 < d.size
  · have HO := Lib.hid (show openL d.data.toList = none by unfold openL; rw [if_pos (.inl (by rw [Array.length_toList]; exact h1))])
    have q1 : decide ((512 : Int) < (d.size : Int)) = true := by rw [decide_eq_true_iff]; omega
    clear h1
    go_enter Tryz.func120, Tryz.ntmps120
    go_wp2
    go_ret2
    exact ⟨_, by rw [HO.out]; rfl, fun l h => by rw [HO.out] at h; (cases h), Below.refl _ _⟩
  · have q1 : decide ((512 : Int) < (d.size : Int)) = false := by rw [decide_eq_false_iff_not]; omega
    have HSF := Lib.hid (fun w => Tm.hasSuffix_any d hd w)
    by_cases h2 : Tm.sfx d = true
    · have h2' : d.data.toList.getLast? = some 0 := by rw [sfx_iff, decide_eq_true_iff] at h2; exact h2
      have HO := Lib.hid (show openL d.data.toList = none by unfold openL; rw [if_pos (.inr h2')])
      rw [h2] at HSF
      clear h1 h2 h2'
      go_enter Tryz.func120, Tryz.ntmps120
      go_wp2_with (go_at_call 149; refine (HSF.out _).mono ?_; rintro e w' ⟨rfl, rfl⟩)
      go_ret2
      exact ⟨_, by rw [HO.out]; rfl, fun l h => by rw [HO.out] at h; (cases h), Below.refl _ _⟩
    have h2 : Tm.sfx d = false := by simpa using h2
    have h2' : ¬ d.data.toList.getLast? = some 0 := by rw [sfx_iff, decide_eq_false_iff_not] at h2; exact h2
    rw [h2] at HSF
    have hlen : d.data.toList.length ≤ 512 := by rw [Array.length_toList]; show d.size ≤ 512; omega
    have hF := fillz_len hlen
    have HF := Lib.hid (fun w => filled_any d 512 (by omega) (by omega) w)
    have hO : openL d.data.toList = if num ((fillz d.data.toList 512).take 4) = (crc ((fillz d.data.toList 512).drop 4)).toNat then some ((fillz d.data.toList 512).drop 4) else none := by
      unfold openL; rw [if_neg (by rintro (h | h); (· omega); (· exact h2' h))]
    have HO := Lib.hid hO
    clear h1 h2 h2' hlen hO
    generalize fillz d.data.toList 512 = F at *
    have hzF : (bs F).size ≤ 512 := by rw [bs_size]; omega
    have htk : tkNum 4 ((bs F).data.toList, false) = (num (F.take 4), (F.drop 4, false)) := tkNum_yes (by rw [bs_size]; omega)
    have HTK := Lib.hid (show ∀ (w : World) (q : Nat), TkR w q (bs F) false → Calls Tryz.prog 150 #[.pointer (some ⟨q, 0, none⟩), .int .i64 4] w fun e w' => e = .returned (.int .u64 (num (F.take 4) : Nat)) ∧ TkR w' q (bs (F.drop 4)) false ∧ w.grownBy w' (some q) from fun w q h => by
      have c := number_tk h 4 (by omega) (by omega) (by unfold maxLen; omega)
      rw [htk] at c
      exact c)
    have HSM := Lib.hid (show ∀ w, Calls Tryz.prog 54 #[.string (bs (F.drop 4))] w fun e w' => e = .returned (.int .u32 ((crc (F.drop 4)).toNat : Nat)) ∧ Below w.heap.size w w' from fun w => psum_any (bs (F.drop 4)) w (by rw [bs_size, List.length_drop]; omega))
    have hlt : (crc (F.drop 4)).toNat < 4294967296 := (crc (F.drop 4)).isLt
    have HR := Lib.hid (show bs (F.drop 4) = bs (F.drop 4) from rfl)
    generalize hV : num (F.take 4) = V at *
    generalize hC : (crc (F.drop 4)).toNat = C at *
    obtain ⟨R, hR⟩ : ∃ R, bs (F.drop 4) = R := ⟨_, rfl⟩
    rw [hR] at HTK HSM
    have HRE := Lib.hid hR
    clear htk hF hV hC hR HR
    by_cases hv : V = C
    · have qv : ((V : Int) == (C : Int)) = true := by rw [beq_iff_eq, hv]
      have HO2 := Lib.hid (show openL d.data.toList = some (F.drop 4) by rw [HO.out, if_pos hv])
      clear hv HO
      go_enter Tryz.func120, Tryz.ntmps120
      go_wp2_with (go_at_call 149; refine (HSF.out _).mono ?_; rintro e w' ⟨rfl, rfl⟩)
      go_at_call 110
      refine (HF.out _).mono ?_
      rintro e w3 ⟨rfl, hb3⟩
      have B3 := Lib.hid hb3
      clear hb3
      go_wp2_with fail
      have hal : Below w3.heap.size w3 (w3.alloc (.cells #[.string (bs F), .bool false] 203)) := (Below.refl _ _).alloc (Nat.le_refl _) _
      have HT4 := Lib.hid (show TkR _ w3.heap.size (bs F) false from heap_alloc_new w3 (.cells #[.string (bs F), .bool false] 203))
      have B4 := Lib.hid (B3.out.trans (hal.mono B3.out.size))
      have hq : w.heap.size ≤ w3.heap.size := B3.out.size
      clear hal
      generalize w3.alloc _ = w4 at *
      generalize w3.heap.size = q at *
      go_at_call 150
      refine (HTK.out _ _ HT4.out).mono ?_
      rintro e W5 ⟨rfl, ht, hg⟩
      have HT5 := Lib.hid (show TkR W5 q R false from ht)
      have B5 := Lib.hid (below_of_grown B4.out hg B4.out.size hq)
      clear ht hg
      go_wp2_with fail
      refine wp_region_T (fun w' : World => w'.cell? ⟨q, 0, none⟩ = some (.string R)) 9 (by kernel_rfl) (by kernel_rfl) ?_
      have hS : W5.drew.cell? ⟨q, 0, none⟩ = some (.string R) := HT5.out.c0
      refine take_T 0 17 (.pointer (some ⟨q, 0, none⟩)) rfl (by rfl) (by kernel_rfl) (by decide) (by kernel_rfl) (by kernel_rfl) (by kernel_rfl) (fun _ _ _ h => h) (Or.inl ⟨by rfl, fun w' hSw => by go_simp⟩) hS ?_
      simp only [List.setIfInBounds_toArray, List.set_cons_zero, List.set_cons_succ]
      refine take_T 1 18 (.string R) rfl (by rfl) (by kernel_rfl) (by decide) (by kernel_rfl) (by kernel_rfl) (by kernel_rfl) (fun _ _ _ h => h) (Or.inl ⟨by rfl, fun w' hSw => by go_simp⟩) hS ?_
      simp only [List.setIfInBounds_toArray, List.set_cons_zero, List.set_cons_succ]
      refine take_T 2 19 (.int .u64 V) rfl (by rfl) (by kernel_rfl) (by decide) (by kernel_rfl) (by kernel_rfl) (by kernel_rfl) (fun _ _ _ h => h) (Or.inl ⟨by rfl, fun w' hSw => by go_simp⟩) hS ?_
      simp only [List.setIfInBounds_toArray, List.set_cons_zero, List.set_cons_succ]
      refine take_T 3 20 (.pointer (some ⟨q, 0, none⟩)) rfl (by rfl) (by kernel_rfl) (by decide) (by kernel_rfl) (by kernel_rfl) (by kernel_rfl) (fun _ _ _ h => h) (Or.inl ⟨by rfl, fun w' hSw => by go_simp⟩) hS ?_
      simp only [List.setIfInBounds_toArray, List.set_cons_zero, List.set_cons_succ]
      refine take_T 4 21 (.string R) rfl (by rfl) (by kernel_rfl) (by decide) (by kernel_rfl) (by kernel_rfl) (by kernel_rfl) (fun _ _ _ h => h) (Or.inl ⟨by rfl, fun w' hSw => by go_simp⟩) hS ?_
      simp only [List.setIfInBounds_toArray, List.set_cons_zero, List.set_cons_succ]
      refine only_T 5 rfl (by kernel_rfl) (by decide) (by rfl) (fun K hK => ?_)
      go_wp2_with fail
      go_at_call 54
      refine (HSM.out _).mono ?_
      rintro e w6 ⟨rfl, hb6⟩
      have hb6 : Below W5.heap.size W5 w6 := ((Below.refl _ _).drew).trans hb6
      have B6 := Lib.hid (B5.out.trans (hb6.mono B5.out.size))
      have hS2 : w6.cell? ⟨q, 0, none⟩ = some (.string R) := (HT5.out.below hb6).c0
      clear hb6
      refine hK.out _ _ hS2 ?_
      clear hK K
      try simp only [Act.put, List.setIfInBounds_toArray, List.set_cons_zero, List.set_cons_succ]
      clear hS
      have hS := hS2
      clear hS2
      refine take_T 6 23 (.int .u64 C) rfl (by rfl) (by kernel_rfl) (by decide) (by kernel_rfl) (by kernel_rfl) (by kernel_rfl) (fun _ _ _ h => h) (Or.inl ⟨by rfl, fun w' hSw => by (go_simp; rw [IntKind.wrap_u64]; omega)⟩) hS ?_
      simp only [List.setIfInBounds_toArray, List.set_cons_zero, List.set_cons_succ]
      refine take_T 7 24 (.bool true) rfl (by rfl) (by kernel_rfl) (by decide) (by kernel_rfl) (by kernel_rfl) (by kernel_rfl) (fun _ _ _ h => h) (Or.inl ⟨by rfl, fun w' hSw => by go_simp⟩) hS ?_
      simp only [List.setIfInBounds_toArray, List.set_cons_zero, List.set_cons_succ]
      refine take_T 8 2 (.string R) rfl (by rfl) (by kernel_rfl) (by decide) (by kernel_rfl) (by kernel_rfl) (by kernel_rfl) (fun _ _ _ h => h) (Or.inl ⟨by rfl, fun w' hSw => by go_simp⟩) hS ?_
      simp only [List.setIfInBounds_toArray, List.set_cons_zero, List.set_cons_succ]
      refine done_T (by kernel_rfl) ?_
      simp only [List.drop_succ_cons, List.drop_zero]
      go_wp2_with fail
      go_ret2
      exact ⟨R, by rw [HO2.out]; rfl, fun l h => by rw [HO2.out] at h; cases h; exact HRE.out.symm, B6.out⟩
    · have qv : ((V : Int) == (C : Int)) = false := by rw [beq_eq_false_iff_ne]; exact fun e => hv (Int.ofNat.inj e)
      have HO2 := Lib.hid (show openL d.data.toList = none by rw [HO.out, if_neg hv])
      clear hv HO
      go_enter Tryz.func120, Tryz.ntmps120
      go_wp2_with (go_at_call 149; refine (HSF.out _).mono ?_; rintro e w' ⟨rfl, rfl⟩)
      go_at_call 110
      refine (HF.out _).mono ?_
      rintro e w3 ⟨rfl, hb3⟩
      have B3 := Lib.hid hb3
      clear hb3
      go_wp2_with fail
      have hal : Below w3.heap.size w3 (w3.alloc (.cells #[.string (bs F), .bool false] 203)) := (Below.refl _ _).alloc (Nat.le_refl _) _
      have HT4 := Lib.hid (show TkR _ w3.heap.size (bs F) false from heap_alloc_new w3 (.cells #[.string (bs F), .bool false] 203))
      have B4 := Lib.hid (B3.out.trans (hal.mono B3.out.size))
      have hq : w.heap.size ≤ w3.heap.size := B3.out.size
      clear hal
      generalize w3.alloc _ = w4 at *
      generalize w3.heap.size = q at *
      go_at_call 150
      refine (HTK.out _ _ HT4.out).mono ?_
      rintro e W5 ⟨rfl, ht, hg⟩
      have HT5 := Lib.hid (show TkR W5 q R false from ht)
      have B5 := Lib.hid (below_of_grown B4.out hg B4.out.size hq)
      clear ht hg
      go_wp2_with fail
      refine wp_region_T (fun w' : World => w'.cell? ⟨q, 0, none⟩ = some (.string R)) 9 (by kernel_rfl) (by kernel_rfl) ?_
      have hS : W5.drew.cell? ⟨q, 0, none⟩ = some (.string R) := HT5.out.c0
      refine take_T 0 17 (.pointer (some ⟨q, 0, none⟩)) rfl (by rfl) (by kernel_rfl) (by decide) (by kernel_rfl) (by kernel_rfl) (by kernel_rfl) (fun _ _ _ h => h) (Or.inl ⟨by rfl, fun w' hSw => by go_simp⟩) hS ?_
      simp only [List.setIfInBounds_toArray, List.set_cons_zero, List.set_cons_succ]
      refine take_T 1 18 (.string R) rfl (by rfl) (by kernel_rfl) (by decide) (by kernel_rfl) (by kernel_rfl) (by kernel_rfl) (fun _ _ _ h => h) (Or.inl ⟨by rfl, fun w' hSw => by go_simp⟩) hS ?_
      simp only [List.setIfInBounds_toArray, List.set_cons_zero, List.set_cons_succ]
      refine take_T 2 19 (.int .u64 V) rfl (by rfl) (by kernel_rfl) (by decide) (by kernel_rfl) (by kernel_rfl) (by kernel_rfl) (fun _ _ _ h => h) (Or.inl ⟨by rfl, fun w' hSw => by go_simp⟩) hS ?_
      simp only [List.setIfInBounds_toArray, List.set_cons_zero, List.set_cons_succ]
      refine take_T 3 20 (.pointer (some ⟨q, 0, none⟩)) rfl (by rfl) (by kernel_rfl) (by decide) (by kernel_rfl) (by kernel_rfl) (by kernel_rfl) (fun _ _ _ h => h) (Or.inl ⟨by rfl, fun w' hSw => by go_simp⟩) hS ?_
      simp only [List.setIfInBounds_toArray, List.set_cons_zero, List.set_cons_succ]
      refine take_T 4 21 (.string R) rfl (by rfl) (by kernel_rfl) (by decide) (by kernel_rfl) (by kernel_rfl) (by kernel_rfl) (fun _ _ _ h => h) (Or.inl ⟨by rfl, fun w' hSw => by go_simp⟩) hS ?_
      simp only [List.setIfInBounds_toArray, List.set_cons_zero, List.set_cons_succ]
      refine only_T 5 rfl (by kernel_rfl) (by decide) (by rfl) (fun K hK => ?_)
      go_wp2_with fail
      go_at_call 54
      refine (HSM.out _).mono ?_
      rintro e w6 ⟨rfl, hb6⟩
      have hb6 : Below W5.heap.size W5 w6 := ((Below.refl _ _).drew).trans hb6
      have B6 := Lib.hid (B5.out.trans (hb6.mono B5.out.size))
      have hS2 : w6.cell? ⟨q, 0, none⟩ = some (.string R) := (HT5.out.below hb6).c0
      clear hb6
      refine hK.out _ _ hS2 ?_
      clear hK K
      try simp only [Act.put, List.setIfInBounds_toArray, List.set_cons_zero, List.set_cons_succ]
      clear hS
      have hS := hS2
      clear hS2
      refine take_T 6 23 (.int .u64 C) rfl (by rfl) (by kernel_rfl) (by decide) (by kernel_rfl) (by kernel_rfl) (by kernel_rfl) (fun _ _ _ h => h) (Or.inl ⟨by rfl, fun w' hSw => by (go_simp; rw [IntKind.wrap_u64]; omega)⟩) hS ?_
      simp only [List.setIfInBounds_toArray, List.set_cons_zero, List.set_cons_succ]
      refine take_T 7 24 (.bool false) rfl (by rfl) (by kernel_rfl) (by decide) (by kernel_rfl) (by kernel_rfl) (by kernel_rfl) (fun _ _ _ h => h) (Or.inl ⟨by rfl, fun w' hSw => by go_simp⟩) hS ?_
      simp only [List.setIfInBounds_toArray, List.set_cons_zero, List.set_cons_succ]
      refine take_T 8 2 (.string R) rfl (by rfl) (by kernel_rfl) (by decide) (by kernel_rfl) (by kernel_rfl) (by kernel_rfl) (fun _ _ _ h => h) (Or.inl ⟨by rfl, fun w' hSw => by go_simp⟩) hS ?_
      simp only [List.setIfInBounds_toArray, List.set_cons_zero, List.set_cons_succ]
      refine done_T (by kernel_rfl) ?_
      simp only [List.drop_succ_cons, List.drop_zero]
      go_wp2_with fail
      go_ret2
      exact ⟨R, by rw [HO2.out]; rfl, fun l h => by rw [HO2.out] at h; (cases h), B6.out⟩
end Go.Proofs.YtlpejbbmemhloaaGreatDoor.Nd
/- Contract of package node's taken: the node that stands in bytes. -/
namespace Go.Proofs.YtlpejbbmemhloaaGreatDoor.Nd
set_option linter.unusedVariables false
set_option linter.unusedSimpArgs false
open Go.ChangeShapes Go.WideShapes Go.ChangeAt Go.RowKit
open Ar Rg
open BigFrame
open Pk (be num be_length u8s u8s_length)
open It (str_le below_drewN)
section
variable {α : Type} {C : Cod α} {c i : Nat} {s0 : S} {D : List α} {l l2 : List UInt8} {b b2 : Bool} {x : α}
/-- i are taken -/
def TkInv (C : Cod α) (c : Nat) (s0 : S) (i : Nat) (D : List α) (l : List UInt8) (b : Bool) : Prop := i ≤ c ∧ D.length = i ∧ l.length ≤ s0.1.length ∧ tkMany C c s0 = (D ++ (tkMany C (c - i) (l, b)).1, (tkMany C (c - i) (l, b)).2)
theorem TkInv.start : TkInv C c (l, b) 0 [] l b := ⟨Nat.zero_le _, rfl, Nat.le_refl _, by simp⟩
theorem tkMany_go (h : i < c) (e : C.tk (l, b) = (x, (l2, b2))) : tkMany C (c - i) (l, b) = if b2 = true then ([x], (l2, b2)) else (x :: (tkMany C (c - (i + 1)) (l2, b2)).1, (tkMany C (c - (i + 1)) (l2, b2)).2) := by
  rw [show c - i = (c - (i + 1)) + 1 by omega, tkMany, e]
theorem TkInv.step (h : TkInv C c s0 i D l b) (hi : i < c) (e : C.tk (l, b) = (x, (l2, false))) (hl : l2.length ≤ l.length) : TkInv C c s0 (i + 1) (D ++ [x]) l2 false := by
  obtain ⟨h1, h2, h3, h4⟩ := h
  rw [tkMany_go hi e, if_neg (by decide)] at h4
  exact ⟨hi, by rw [List.length_append, h2]; rfl, Nat.le_trans hl h3, by rw [h4, List.append_assoc]; rfl⟩
theorem TkInv.stop (h : TkInv C c s0 i D l b) (hi : i < c) (e : C.tk (l, b) = (x, (l2, true))) : tkMany C c s0 = (D ++ [x], (l2, true)) := by
  obtain ⟨h1, h2, h3, h4⟩ := h
  rwa [tkMany_go hi e, if_pos rfl] at h4
theorem TkInv.done (h : TkInv C c s0 i D l b) (hi : ¬ i < c) : tkMany C c s0 = (D, (l, b)) := by
  obtain ⟨h1, h2, h3, h4⟩ := h
  rw [show c - i = 0 by omega] at h4
  rw [h4]
  simp [tkMany]
end
theorem trimB_nil (l : List UInt8) : Lib.trimB l 0 = [] ↔ allz l = true := by
  have key : ∀ m : List UInt8, m.dropWhile (· == (0 : UInt8)) = [] ↔ ∀ x ∈ m, x = 0 := by
    intro m
    induction m with
    | nil => simp
    | cons a m ih =>
      by_cases ha : a = 0
      · subst ha
        rw [List.dropWhile_cons_of_pos (by simp), ih]
        simp
      · rw [List.dropWhile_cons_of_neg (by simpa using ha)]
        simp [ha]
  unfold Lib.trimB Lib.trimLeftB Lib.trimRightB allz
  rw [key, List.all_eq_true]
  constructor
  · intro h x hx
    rw [decide_eq_true_iff]
    have h2 : l.reverse.dropWhile (· == (0 : UInt8)) = [] := by
      cases hr : l.reverse.dropWhile (· == (0 : UInt8)) with
      | nil => rfl
      | cons a m =>
        have h3 : a = 0 := h a (by rw [hr]; simp)
        have h4 := List.head_dropWhile_not (p := (· == (0 : UInt8))) (l := l.reverse) (by rw [hr]; simp)
        simp only [hr, List.head_cons, h3] at h4
        simp at h4
    exact (key _).1 h2 x (List.mem_reverse.2 hx)
  · intro h x hx
    have hx := List.mem_reverse.1 hx
    have := (List.dropWhile_sublist (· == (0 : UInt8))).subset hx
    simpa using h x (List.mem_reverse.1 this)
/-- a node that is the call's own -/
def NdOwn (w w' : World) (cs : Array Value) (n : Nd) : Prop := ∃ vI vK vV, cs = #[.int .u8 n.kd, vI, vK, vV] ∧ MkI w w' vI n.I ∧ MkK w w' vK n.K ∧ MkV w w' vV n.V
theorem NdOwn.at_ {w w' : World} {cs : Array Value} {n : Nd} (h : NdOwn w w' cs n) (h1 : n.I.length ≤ 281474976710656) (h2 : n.K.length ≤ 281474976710656) (h3 : n.V.length ≤ 281474976710656) : NdAt w' cs n := by
  obtain ⟨vI, vK, vV, rfl, mI, mK, mV⟩ := h
  obtain ⟨A1, c1, rfl, _, _, l1⟩ := mI.ls It.enc_len
  obtain ⟨A2, c2, rfl, _, _, l2⟩ := mK.ls ecK_len
  obtain ⟨A3, c3, rfl, _, _, l3⟩ := mV.ls ecV_len
  exact ⟨A1, _, c1, A2, _, c2, A3, _, c3, rfl, rfl, rfl, rfl, h1, h2, h3, l1, l2, l3⟩
theorem NdOwn.bel {w w' : World} {cs : Array Value} {n : Nd} (h : NdOwn w w' cs n) : Below w.heap.size w w' := by
  obtain ⟨vI, vK, vV, rfl, mI, mK, mV⟩ := h; exact mI.2
/-- taken's answer -/
def TkPost (l0 : List UInt8) (w : World) (e : Ending) (w' : World) : Prop := ∃ cs, e = .returned (.tuple #[.agg cs, .bool (tkN l0).2]) ∧ NdOwn w w' cs (tkN l0).1
theorem item_tkL {w : World} {q : Nat} {l : List UInt8} {b : Bool} {x : It.Itm} {l2 : List UInt8} {b2 : Bool} (e : cI.tk (l, b) = (x, (l2, b2))) (h4 : (bs l).size ≤ maxLen) (h : TkR w q (bs l) b) :
    Calls Tryz.prog 151 #[.pointer (some ⟨q, 0, none⟩)] w fun e w' => e = .returned (.agg (It.enc x).toArray) ∧ TkR w' q (bs l2) b2 ∧ w.grownBy w' (some q) := by
  have := item_tk h h4
  rw [bs_data, e] at this
  exact this
theorem kid_tkL {w : World} {q : Nat} {l : List UInt8} {b : Bool} {x : Kd} {l2 : List UInt8} {b2 : Bool} (e : cK.tk (l, b) = (x, (l2, b2))) (h4 : (bs l).size ≤ maxLen) (h : TkR w q (bs l) b) :
    Calls Tryz.prog 152 #[.pointer (some ⟨q, 0, none⟩)] w fun e w' => e = .returned (.agg (ecK x).toArray) ∧ TkR w' q (bs l2) b2 ∧ w.grownBy w' (some q) := by
  have h1 := kid_tk h h4
  have hx : x.hs.length = 32 := by
    have : x = (cK.tk (l, b)).1 := by rw [e]
    rw [this]; exact tkHash_len _
  rw [bs_data, e, ← ecK_of hx] at h1
  exact h1
theorem volume_tkL {w : World} {q : Nat} {l : List UInt8} {b : Bool} {x : Vo} {l2 : List UInt8} {b2 : Bool} (e : cV.tk (l, b) = (x, (l2, b2))) (h4 : (bs l).size ≤ maxLen) (h : TkR w q (bs l) b) :
    Calls Tryz.prog 153 #[.pointer (some ⟨q, 0, none⟩)] w fun e w' => e = .returned (.agg (ecV x).toArray) ∧ TkR w' q (bs l2) b2 ∧ w.grownBy w' (some q) := by
  have h1 := volume_tk h h4
  have hx : x.hs.length = 32 := by
    have : x = (cV.tk (l, b)).1 := by rw [e]
    rw [this]; exact tkHash_len _
  rw [bs_data, e, ← ecV_of hx] at h1
  exact h1
theorem I_less (s : S) : (cI.tk s).2.1.length ≤ s.1.length := Nat.le_trans (txt_less _) (txt_less _)
theorem K_less (s : S) : (cK.tk s).2.1.length ≤ s.1.length := by
  show (tkHash (tkNum 4 (tkTxt s).2).2).2.1.length ≤ s.1.length
  exact Nat.le_trans (hash_less _) (Nat.le_trans (num_less _ _) (txt_less _))
theorem V_less (s : S) : (cV.tk s).2.1.length ≤ s.1.length := by
  obtain ⟨V1, s1, e1⟩ : ∃ V s', tkTxt s = (V, s') := ⟨_, _, rfl⟩
  obtain ⟨V2, s2, e2⟩ : ∃ V s', tkTxt s1 = (V, s') := ⟨_, _, rfl⟩
  obtain ⟨V3, s3, e3⟩ : ∃ V s', tkNum 1 s2 = (V, s') := ⟨_, _, rfl⟩
  obtain ⟨V4, s4, e4⟩ : ∃ V s', tkNum 8 s3 = (V, s') := ⟨_, _, rfl⟩
  obtain ⟨V5, s5, e5⟩ : ∃ V s', tkNum 4 s4 = (V, s') := ⟨_, _, rfl⟩
  obtain ⟨V6, s6, e6⟩ : ∃ V s', tkHash s5 = (V, s') := ⟨_, _, rfl⟩
  have hX : (cV.tk s).2 = s6 := by
    have := as_tk (A := cTxt.pair (cTxt.pair ((cNum 1).pair ((cNum 8).pair ((cNum 4).pair cHash))))) (f := fun p => (⟨bs p.1, p.2.2.1, bs p.2.1, p.2.2.2.1, p.2.2.2.2.1, p.2.2.2.2.2⟩ : Vo)) (g := fun x => (x.nm.data.toList, x.fr.data.toList, x.kd, x.bn, x.rt, x.hs)) (pair_tk (A := cTxt) e1 (pair_tk (A := cTxt) e2 (pair_tk (A := cNum 1) e3 (pair_tk (A := cNum 8) e4 (pair_tk (A := cNum 4) (B := cHash) e5 e6)))))
    exact congrArg Prod.snd this
  rw [hX]
  have h1 := txt_less s
  have h2 := txt_less s1
  have h3 := num_less 1 s2
  have h4 := num_less 8 s3
  have h5 := num_less 4 s4
  have h6 := hash_less s5
  rw [e1] at h1
  rw [e2] at h2
  rw [e3] at h3
  rw [e4] at h4
  rw [e5] at h5
  rw [e6] at h6
  dsimp only at h1 h2 h3 h4 h5 h6
  omega
theorem less_of {α : Type} {C : Cod α} (h : ∀ s, (C.tk s).2.1.length ≤ s.1.length) {l l2 : List UInt8} {b b2 : Bool} {x : α} (e : C.tk (l, b) = (x, (l2, b2))) : l2.length ≤ l.length := by
  have := h (l, b); rw [e] at this; exact this
abbrev zS : Value := .slice none 0 0
theorem results_row2 {P : Program} {fn : Func} {p u : Tmp} {ty : TypeId} (h : fn.results = #[.cell p ty, .tmp u]) (tmps : Array Value) (w : World) (g : Nat) (t : TypeId) (cs : Array Value) (fr : Nat × Nat) (d : TypeDesc)
    (hp : tmps.getD p undef = .pointer (some ⟨g, 0, none⟩)) (hg : w.heap[g]? = some (.cells cs t fr))
    (hu : P.underlying ty = some d) (hd : (match d with | .struct _ | .array _ _ => true | _ => false) = true) (hi : (P.info? ty).map (·.size) = some cs.size) (r : Value) (hr : tmps.getD u undef = r) :
    (results fn tmps).run P w = .ok (.tuple #[.agg cs, r]) w := by
  rw [results_cell_tmp h, hp, hr]
  simp [asAddr, run_loadVar_row w g t ty cs fr d hg hu hd hi, Result.andThen]
theorem four_cells (a b c d : Value) (ha : a.oneCell' = true) (hb : b.oneCell' = true) (hc : c.oneCell' = true) (hd : d.oneCell' = true) : (#[a, b, c, d] : Array Value).all (·.oneCell') = true := by simp [ha, hb, hc, hd]
/-- where the taking of I stands -/
structure TkStI (w : World) (q N kd : Nat) (v : Value) (D : List It.Itm) (l : List UInt8) (b : Bool) (wr : World) : Prop where
  tk : TkR wr q (bs l) b
  row : wr.heap[N]? = some (.cells #[.int .u8 kd, v, zS, zS] 31 (0, 0))
  res : wr.heap[w.heap.size]? = some (.cells #[.int .u8 0, zS, zS, zS] 31 (0, 0))
  own : MkI w wr v D
  q1 : w.heap.size < q
  n1 : w.heap.size < N
  qn : q ≠ N
section
variable {w wr w' : World} {q N kd : Nat} {v : Value} {D : List It.Itm} {l l2 : List UInt8} {b b2 : Bool}
theorem TkStI.took (h : TkStI w q N kd v D l b wr) (ht : TkR w' q (bs l2) b2) (hg : wr.grownBy w' (some q)) : TkStI w q N kd v D l2 b2 w' :=
  ⟨ht, (hg.block N (row_lt h.row) (fun e => h.qn (Option.some.inj e).symm)).trans h.row, (hg.block _ (row_lt h.res) (fun e => Nat.ne_of_lt h.q1 (Option.some.inj e))).trans h.res, h.own.grownQ hg (Nat.le_of_lt h.q1) (h.own.off h.tk (by decide)), h.q1, h.n1, h.qn⟩
theorem TkStI.below (h : TkStI w q N kd v D l b wr) (hb : Below wr.heap.size wr w') : TkStI w q N kd v D l b w' :=
  ⟨h.tk.below hb, (hb.block N (row_lt h.row)).trans h.row, (hb.block _ (row_lt h.res)).trans h.res, h.own.go hb, h.q1, h.n1, h.qn⟩
theorem TkStI.put (h : TkStI w q N kd v D l b wr) {v' : Value} {D' : List It.Itm} (hm : MkI w w' v' D') (hg : wr.grownBy w' v.ownBlock) : TkStI w q N kd v' D' l b (w'.setCell ⟨N, 1, none⟩ v') := by
  have hq := h.own.off h.tk (by decide)
  have hN := h.own.off h.row (by decide)
  have hR := h.own.off h.res (by decide)
  have tq : w'.heap[q]? = _ := (hg.block q h.tk.lt (fun e => hq e.symm)).trans h.tk
  have tN := (hg.block N (row_lt h.row) (fun e => hN e.symm)).trans h.row
  have tR := (hg.block _ (row_lt h.res) (fun e => hR e.symm)).trans h.res
  have hs := grown_setCell w' ⟨N, 1, none⟩ v'
  refine ⟨(hs.block q (row_lt tq) (fun e => h.qn (Option.some.inj e))).trans tq, ?_, (hs.block _ (row_lt tR) (fun e => Nat.ne_of_lt h.n1 (Option.some.inj e))).trans tR, hm.grownQ hs (Nat.le_of_lt h.n1) (hm.off tN (by decide)), h.q1, h.n1, h.qn⟩
  simp [World.setCell, tN, Array.getElem?_modify]
theorem TkStI.out (h : TkStI w q N kd v D l b wr) {n : Nd} (hn : n = ⟨kd, D, [], []⟩) : NdOwn w (wr.setRow w.heap.size #[.int .u8 kd, v, zS, zS]) #[.int .u8 kd, v, zS, zS] n ∧ (wr.setRow w.heap.size #[.int .u8 kd, v, zS, zS]).heap[w.heap.size]? = some (.cells #[.int .u8 kd, v, zS, zS] 31 (0, 0)) := by
  subst hn
  have hs := grown_setRow wr w.heap.size #[.int .u8 kd, v, zS, zS]
  have hm : MkI w (wr.setRow w.heap.size #[.int .u8 kd, v, zS, zS]) v D := h.own.grownQ hs (Nat.le_refl _) (h.own.off h.res (by decide))
  exact ⟨⟨_, _, _, rfl, hm, Mk.nil hm.2, Mk.nil hm.2⟩, setRow_heap' h.res⟩
end
/-- where the taking of K stands -/
structure TkStK (w : World) (q N kd : Nat) (v : Value) (D : List Kd) (l : List UInt8) (b : Bool) (wr : World) : Prop where
  tk : TkR wr q (bs l) b
  row : wr.heap[N]? = some (.cells #[.int .u8 kd, zS, v, zS] 31 (0, 0))
  res : wr.heap[w.heap.size]? = some (.cells #[.int .u8 0, zS, zS, zS] 31 (0, 0))
  own : MkK w wr v D
  q1 : w.heap.size < q
  n1 : w.heap.size < N
  qn : q ≠ N
section
variable {w wr w' : World} {q N kd : Nat} {v : Value} {D : List Kd} {l l2 : List UInt8} {b b2 : Bool}
theorem TkStK.took (h : TkStK w q N kd v D l b wr) (ht : TkR w' q (bs l2) b2) (hg : wr.grownBy w' (some q)) : TkStK w q N kd v D l2 b2 w' :=
  ⟨ht, (hg.block N (row_lt h.row) (fun e => h.qn (Option.some.inj e).symm)).trans h.row, (hg.block _ (row_lt h.res) (fun e => Nat.ne_of_lt h.q1 (Option.some.inj e))).trans h.res, h.own.grownQ hg (Nat.le_of_lt h.q1) (h.own.off h.tk (by decide)), h.q1, h.n1, h.qn⟩
theorem TkStK.below (h : TkStK w q N kd v D l b wr) (hb : Below wr.heap.size wr w') : TkStK w q N kd v D l b w' :=
  ⟨h.tk.below hb, (hb.block N (row_lt h.row)).trans h.row, (hb.block _ (row_lt h.res)).trans h.res, h.own.go hb, h.q1, h.n1, h.qn⟩
theorem TkStK.put (h : TkStK w q N kd v D l b wr) {v' : Value} {D' : List Kd} (hm : MkK w w' v' D') (hg : wr.grownBy w' v.ownBlock) : TkStK w q N kd v' D' l b (w'.setCell ⟨N, 2, none⟩ v') := by
  have hq := h.own.off h.tk (by decide)
  have hN := h.own.off h.row (by decide)
  have hR := h.own.off h.res (by decide)
  have tq : w'.heap[q]? = _ := (hg.block q h.tk.lt (fun e => hq e.symm)).trans h.tk
  have tN := (hg.block N (row_lt h.row) (fun e => hN e.symm)).trans h.row
  have tR := (hg.block _ (row_lt h.res) (fun e => hR e.symm)).trans h.res
  have hs := grown_setCell w' ⟨N, 2, none⟩ v'
  refine ⟨(hs.block q (row_lt tq) (fun e => h.qn (Option.some.inj e))).trans tq, ?_, (hs.block _ (row_lt tR) (fun e => Nat.ne_of_lt h.n1 (Option.some.inj e))).trans tR, hm.grownQ hs (Nat.le_of_lt h.n1) (hm.off tN (by decide)), h.q1, h.n1, h.qn⟩
  simp [World.setCell, tN, Array.getElem?_modify]
theorem TkStK.out (h : TkStK w q N kd v D l b wr) {n : Nd} (hn : n = ⟨kd, [], D, []⟩) : NdOwn w (wr.setRow w.heap.size #[.int .u8 kd, zS, v, zS]) #[.int .u8 kd, zS, v, zS] n ∧ (wr.setRow w.heap.size #[.int .u8 kd, zS, v, zS]).heap[w.heap.size]? = some (.cells #[.int .u8 kd, zS, v, zS] 31 (0, 0)) := by
  subst hn
  have hs := grown_setRow wr w.heap.size #[.int .u8 kd, zS, v, zS]
  have hm : MkK w (wr.setRow w.heap.size #[.int .u8 kd, zS, v, zS]) v D := h.own.grownQ hs (Nat.le_refl _) (h.own.off h.res (by decide))
  exact ⟨⟨_, _, _, rfl, Mk.nil hm.2, hm, Mk.nil hm.2⟩, setRow_heap' h.res⟩
end
/-- where the taking of V stands -/
structure TkStV (w : World) (q N kd : Nat) (v : Value) (D : List Vo) (l : List UInt8) (b : Bool) (wr : World) : Prop where
  tk : TkR wr q (bs l) b
  row : wr.heap[N]? = some (.cells #[.int .u8 kd, zS, zS, v] 31 (0, 0))
  res : wr.heap[w.heap.size]? = some (.cells #[.int .u8 0, zS, zS, zS] 31 (0, 0))
  own : MkV w wr v D
  q1 : w.heap.size < q
  n1 : w.heap.size < N
  qn : q ≠ N
section
variable {w wr w' : World} {q N kd : Nat} {v : Value} {D : List Vo} {l l2 : List UInt8} {b b2 : Bool}
theorem TkStV.took (h : TkStV w q N kd v D l b wr) (ht : TkR w' q (bs l2) b2) (hg : wr.grownBy w' (some q)) : TkStV w q N kd v D l2 b2 w' :=
  ⟨ht, (hg.block N (row_lt h.row) (fun e => h.qn (Option.some.inj e).symm)).trans h.row, (hg.block _ (row_lt h.res) (fun e => Nat.ne_of_lt h.q1 (Option.some.inj e))).trans h.res, h.own.grownQ hg (Nat.le_of_lt h.q1) (h.own.off h.tk (by decide)), h.q1, h.n1, h.qn⟩
theorem TkStV.below (h : TkStV w q N kd v D l b wr) (hb : Below wr.heap.size wr w') : TkStV w q N kd v D l b w' :=
  ⟨h.tk.below hb, (hb.block N (row_lt h.row)).trans h.row, (hb.block _ (row_lt h.res)).trans h.res, h.own.go hb, h.q1, h.n1, h.qn⟩
theorem TkStV.put (h : TkStV w q N kd v D l b wr) {v' : Value} {D' : List Vo} (hm : MkV w w' v' D') (hg : wr.grownBy w' v.ownBlock) : TkStV w q N kd v' D' l b (w'.setCell ⟨N, 3, none⟩ v') := by
  have hq := h.own.off h.tk (by decide)
  have hN := h.own.off h.row (by decide)
  have hR := h.own.off h.res (by decide)
  have tq : w'.heap[q]? = _ := (hg.block q h.tk.lt (fun e => hq e.symm)).trans h.tk
  have tN := (hg.block N (row_lt h.row) (fun e => hN e.symm)).trans h.row
  have tR := (hg.block _ (row_lt h.res) (fun e => hR e.symm)).trans h.res
  have hs := grown_setCell w' ⟨N, 3, none⟩ v'
  refine ⟨(hs.block q (row_lt tq) (fun e => h.qn (Option.some.inj e))).trans tq, ?_, (hs.block _ (row_lt tR) (fun e => Nat.ne_of_lt h.n1 (Option.some.inj e))).trans tR, hm.grownQ hs (Nat.le_of_lt h.n1) (hm.off tN (by decide)), h.q1, h.n1, h.qn⟩
  simp [World.setCell, tN, Array.getElem?_modify]
theorem TkStV.out (h : TkStV w q N kd v D l b wr) {n : Nd} (hn : n = ⟨kd, [], [], D⟩) : NdOwn w (wr.setRow w.heap.size #[.int .u8 kd, zS, zS, v]) #[.int .u8 kd, zS, zS, v] n ∧ (wr.setRow w.heap.size #[.int .u8 kd, zS, zS, v]).heap[w.heap.size]? = some (.cells #[.int .u8 kd, zS, zS, v] 31 (0, 0)) := by
  subst hn
  have hs := grown_setRow wr w.heap.size #[.int .u8 kd, zS, zS, v]
  have hm : MkV w (wr.setRow w.heap.size #[.int .u8 kd, zS, zS, v]) v D := h.own.grownQ hs (Nat.le_refl _) (h.own.off h.res (by decide))
  exact ⟨⟨_, _, _, rfl, Mk.nil hm.2, Mk.nil hm.2, hm⟩, setRow_heap' h.res⟩
end
set_option maxRecDepth 100000 in
set_option maxHeartbeats 8000000 in
theorem takenI (s : ByteArray) (h4 : s.size ≤ maxLen) (hkd : (tkNum 1 (s.data.toList, false)).1 = 1) (w : World) : Calls Tryz.prog 121 #[.string s] w (TkPost s.data.toList w) := by
  obtain ⟨kd, ⟨l1, b1⟩, e1⟩ : ∃ V s2, tkNum 1 (s.data.toList, false) = (V, s2) := ⟨_, _, rfl⟩
  obtain ⟨c, ⟨l2, b2⟩, e2⟩ : ∃ V s2, tkNum 1 (l1, b1) = (V, s2) := ⟨_, _, rfl⟩
  have hkd8 := num_byte (s.data.toList, false)
  have hc8 := num_byte (l1, b1)
  have hl1 := num_less 1 (s.data.toList, false)
  have hl2 := num_less 1 (l1, b1)
  rw [e1] at hkd8 hl1
  rw [e2] at hc8 hl2
  dsimp only at hkd8 hl1 hc8 hl2
  have hm1 : (bs l1).size ≤ maxLen := bs_le (s := s) hl1 h4
  have hm2 : (bs l2).size ≤ maxLen := bs_le (s := bs l1) hl2 hm1
  have HC1 := Lib.hid (show ∀ w q, TkR w q s false → Calls Tryz.prog 150 #[.pointer (some ⟨q, 0, none⟩), .int .i64 1] w fun e w' => e = .returned (.int .u64 (kd : Nat)) ∧ TkR w' q (bs l1) b1 ∧ w.grownBy w' (some q) from fun w q h => by
    have c := number_tk h 1 (by omega) (by omega) h4
    rw [e1] at c
    exact c)
  have HC2 := Lib.hid (show ∀ w q, TkR w q (bs l1) b1 → Calls Tryz.prog 150 #[.pointer (some ⟨q, 0, none⟩), .int .i64 1] w fun e w' => e = .returned (.int .u64 (c : Nat)) ∧ TkR w' q (bs l2) b2 ∧ w.grownBy w' (some q) from fun w q h => by
    have c := number_tk h 1 (by omega) (by omega) hm1
    rw [bs_data, e2] at c
    exact c)
  rw [e1] at hkd
  dsimp only at hkd
  have HT := Lib.hid (show tkN s.data.toList = (⟨kd, (tkMany cI c (l2, b2)).1, [], []⟩, !(tkMany cI c (l2, b2)).2.2 && allz (tkMany cI c (l2, b2)).2.1) by
    unfold tkN
    rw [e1]
    dsimp only
    rw [e2]
    dsimp only
    rw [if_pos hkd])
  have HM2 := Lib.hid hm2
  have HKD := Lib.hid hkd
  have eu : IntKind.u8.wrap (kd : Int) = (kd : Int) := IntWalk.u8_in _ (by omega)
  obtain ⟨R1, R2, S0, Z0⟩ := two_new w #[.int .u8 0, zS, zS, zS] #[.string s, .bool false] 31 203
  have HR1 := Lib.hid R1
  have HT2 := Lib.hid (show TkR _ (w.heap.size + 1) s false from R2)
  have HS0 := Lib.hid S0
  clear R1 R2 S0 Z0 hm1 hm2 hl1 hl2 hkd e1 e2 h4
  go_enter Tryz.func121, Tryz.ntmps121
  go_wp2_with fail
  go_step3
  go_wp2_with fail
  generalize (w.alloc _).alloc _ = W2 at *
  go_at_call 150
  refine (HC1.out _ _ HT2.out).mono ?_
  rintro e w3 ⟨rfl, ht, hg⟩
  have HT3 := Lib.hid ht
  have HR3 := Lib.hid ((hg.block w.heap.size (row_lt HR1.out) (fun e => by have := Option.some.inj e; omega)).trans HR1.out)
  have HB3 := Lib.hid (HS0.out.grown hg HS0.out.size (fun k hk => by cases hk; exact Nat.le_succ _))
  clear ht hg HT2 HR1 HS0
  go_wp2_with fail
  have hal : Below w3.heap.size w3 (w3.alloc (.cells #[.int .u8 kd, zS, zS, zS] 31)) := (Below.refl _ _).alloc (Nat.le_refl _) _
  have HN4 := Lib.hid (heap_alloc_new w3 (.cells #[.int .u8 kd, zS, zS, zS] 31))
  have HT4 := Lib.hid (HT3.out.below hal)
  have HR4 := Lib.hid ((hal.block w.heap.size (row_lt HR3.out)).trans HR3.out)
  have HB4 := Lib.hid (HB3.out.trans (hal.mono HB3.out.size))
  have HN1 := Lib.hid (show w.heap.size < w3.heap.size from row_lt HR3.out)
  have HQN := Lib.hid (show w.heap.size + 1 ≠ w3.heap.size from Nat.ne_of_lt HT3.out.lt)
  have HQ1 := Lib.hid (show w.heap.size < w.heap.size + 1 from Nat.lt_succ_self _)
  have HS4 := Lib.hid (show TkStI w (w.heap.size + 1) w3.heap.size kd zS [] l1 b1 (w3.alloc (.cells #[.int .u8 kd, zS, zS, zS] 31)) from ⟨HT4.out, HN4.out, HR4.out, Mk.nil HB4.out, HQ1.out, HN1.out, HQN.out⟩)
  clear hal HN4 HT3 HR3 HB3 HR4 HB4 HN1 HQN HQ1
  generalize w3.alloc _ = w4 at *
  generalize w3.heap.size = N at *
  go_at_call 150
  refine (HC2.out _ _ HT4.out).mono ?_
  rintro e w5 ⟨rfl, ht, hg⟩
  have HS5 := Lib.hid (HS4.out.took ht hg)
  clear ht hg HS4 HT4 HC1 HC2
  generalize hq : w.heap.size + 1 = q at *
  clear hq
  go_wp2_with fail
  go_step3
  go_wp2_with fail
  go_loopw [14] (fun iv wr => ∃ (i : Nat) (v1 : Value) (D : List It.Itm) (l : List UInt8) (b : Bool), i ≤ c ∧ iv = .int .u64 i ∧ Hid (TkStI w q N kd v1 D l b wr) ∧ Hid (TkInv cI c (l2, b2) i D l b)) (fun iv _ => c - (intOf iv).toNat)
  case atStart => exact ⟨0, zS, [], l2, b2, Nat.zero_le _, by go_num, HS5.out, TkInv.start⟩
  case round =>
    obtain ⟨i, v1, D, l, b, hi, rfl, hst, hinv⟩ := hrel
    have HLB := Lib.hid (show (bs l).size ≤ maxLen from bs_le (s := bs l2) (Hid.out hinv).2.2.1 HM2.out)
    by_cases hlt : i < c
    · have HIL := Lib.hid (show D.length ≤ 255 by have := (Hid.out hinv).2.1; omega)
      obtain ⟨x, ⟨l3, b3⟩, e3⟩ : ∃ x s2, cI.tk (l, b) = (x, s2) := ⟨_, _, rfl⟩
      have HL3 := Lib.hid (less_of I_less e3)
      have HCT := Lib.hid (fun w h => item_tkL (w := w) (q := q) e3 HLB.out h)
      have HE3 := Lib.hid e3
      have HM3 := Lib.hid (show (bs l3).size ≤ maxLen from bs_le (s := bs l) HL3.out HLB.out)
      clear e3
      have k0 : wr.cell? ⟨N, 0, none⟩ = some (.int .u8 kd) := cell_of_row _ _ 0 _ _ _ (Hid.out hst).row
      have q1 : ((kd : Int) == 1) = true := by rw [HKD.out]; rfl
      go_wp2_with fail
      refine wp_region_T (fun w' : World => w'.cell? ⟨N, 1, none⟩ = some v1) 5 (by kernel_rfl) (by kernel_rfl) ?_
      have hS : wr.drew.cell? ⟨N, 1, none⟩ = some v1 := cell_of_row _ _ 1 _ _ _ (Hid.out hst).row
      refine take_T 0 20 (.pointer (some ⟨N, 1, none⟩)) rfl (by rfl) (by kernel_rfl) (by decide) (by kernel_rfl) (by kernel_rfl) (by kernel_rfl) (fun _ _ _ h => h) (Or.inl ⟨by rfl, fun w' hSw => by go_simp⟩) hS ?_
      simp only [List.setIfInBounds_toArray, List.set_cons_zero, List.set_cons_succ]
      refine take_T 1 21 (v1) rfl (by rfl) (by kernel_rfl) (by decide) (by kernel_rfl) (by kernel_rfl) (by kernel_rfl) (fun _ _ _ h => h) (Or.inl ⟨by rfl, fun w' hSw => by go_simp⟩) hS ?_
      simp only [List.setIfInBounds_toArray, List.set_cons_zero, List.set_cons_succ]
      refine only_T 2 rfl (by kernel_rfl) (by decide) (by rfl) (fun K hK => ?_)
      go_wp2_with fail
      go_at_call 151
      refine (HCT.out _ (show TkR wr.drew q (bs l) b from (Hid.out hst).tk)).mono ?_
      rintro e w3 ⟨rfl, ht, hg⟩
      have HS3 := Lib.hid (((Hid.out hst).below (Below.refl _ _).drew).took ht hg)
      clear ht hg hst k0
      have hS2 : w3.cell? ⟨N, 1, none⟩ = some v1 := cell_of_row _ _ 1 _ _ _ HS3.out.row
      refine hK.out _ _ hS2 ?_
      clear hK K
      try simp only [Act.put, List.setIfInBounds_toArray, List.set_cons_zero, List.set_cons_succ]
      clear hS
      have hS := hS2
      clear hS2
      refine only_T 3 rfl (by kernel_rfl) (by decide) (by rfl) (fun K hK => ?_)
      refine op_oneI (.tmp 22) x rfl rfl ?_
      have hal : Below w3.heap.size w3 (w3.alloc (.cells (It.enc x).toArray 63)) := (Below.refl _ _).alloc (Nat.le_refl _) _
      have HS4 := Lib.hid (HS3.out.below hal)
      have HX4 := Lib.hid (heap_alloc_new w3 (.cells (It.enc x).toArray 63))
      clear hal HS3
      generalize w3.alloc _ = w4 at *
      generalize w3.heap.size = g4 at *
      have hS2 : w4.cell? ⟨N, 1, none⟩ = some v1 := cell_of_row _ _ 1 _ _ _ HS4.out.row
      refine hK.out _ _ hS2 ?_
      clear hK K
      try simp only [Act.put, List.setIfInBounds_toArray, List.set_cons_zero, List.set_cons_succ]
      clear hS
      have hS := hS2
      clear hS2
      refine only_T 4 rfl (by kernel_rfl) (by decide) (by rfl) (fun K hK => ?_)
      refine op_catI HS4.out.own x g4 1 HX4.out (by have := HIL.out; omega) (.tmp 21) (.tmp 23) rfl rfl rfl ?_
      intro v5 w5x hm5 hg5 hat5
      obtain ⟨A5, n5, c5, rfl⟩ : ∃ A n c, v5 = .slice A n c := by obtain ⟨A, c, h, _⟩ := hm5.ls It.enc_len; exact ⟨A, _, c, h⟩
      have HS5x := Lib.hid (HS4.out.put hm5 hg5)
      have hq5 := HS4.out.own.off HS4.out.tk (by decide)
      have hN5 := HS4.out.own.off HS4.out.row (by decide)
      have tN := (hg5.block N (row_lt HS4.out.row) (fun e => hN5 e.symm)).trans HS4.out.row
      have hS2 : w5x.cell? ⟨N, 1, none⟩ = some v1 := cell_of_row _ _ 1 _ _ _ tN
      have f5 : w5x.frozen? ⟨N, 1, none⟩ = false := frozen_of_row _ _ _ _ _ tN
      clear hm5 hg5 hat5 hq5 hN5 tN HS4 HX4
      refine hK.out _ _ hS2 ?_
      clear hK K
      try simp only [Act.put, List.setIfInBounds_toArray, List.set_cons_zero, List.set_cons_succ]
      clear hS
      have hS := hS2
      clear hS2
      refine done_T (by kernel_rfl) ?_
      simp only [List.drop_succ_cons, List.drop_zero]
      have d1 : (w5x.setCell ⟨N, 1, none⟩ (.slice A5 n5 c5)).cell? ⟨q, 1, none⟩ = some (.bool b3) := HS5x.out.tk.c1
      cases b3
      · have HI2 := Lib.hid ((Hid.out hinv).step hlt HE3.out HL3.out)
        clear hinv HE3 HCT HL3
        go_wp2_with fail
        exact ⟨⟨i + 1, _, D ++ [x], l3, false, by omega, by go_num, HS5x.out, HI2.out⟩, by simp [intOf] <;> omega⟩
      · have HDN0 := Lib.hid ((Hid.out hinv).stop hlt HE3.out)
        clear hinv HE3 HCT HL3
        go_wp2_with fail
        clear d1 f5 hS
        generalize World.setCell _ _ _ = wE at *
        obtain ⟨DE, hDE⟩ : ∃ DE, D ++ [x] = DE := ⟨_, rfl⟩
        rw [hDE] at HDN0 HS5x
        clear hDE
        have HDN := HDN0
        have HONE := Lib.hid (show (#[.int .u8 kd, (.slice A5 n5 c5), zS, zS] : Array Value).all (·.oneCell') = true from four_cells _ _ _ _ rfl rfl rfl rfl)
        have HR2 := Lib.hid (show (tkN s.data.toList).2 = false by rw [HT.out, HDN.out]; rfl)
        have HND := Lib.hid (show (tkN s.data.toList).1 = ⟨kd, DE, [], []⟩ by rw [HT.out, HDN.out])
        have HSF := Lib.hid (HS5x.out)
        have HKP := Lib.hid (show ∀ w' : World, TkStI w q N kd ((.slice A5 n5 c5)) DE l3 true w' → w'.cell? ⟨N, 0, none⟩ = some (.int .u8 kd) ∧ w'.cell? ⟨N, 1, none⟩ = some ((.slice A5 n5 c5)) ∧ w'.cell? ⟨N, 2, none⟩ = some (zS) ∧ w'.cell? ⟨N, 3, none⟩ = some (zS) ∧ w'.cell? ⟨q, 0, none⟩ = some (.string (bs l3)) ∧ w'.cell? ⟨q, 1, none⟩ = some (.bool true) from fun w' h => ⟨cell_of_row _ _ 0 _ _ _ h.row, cell_of_row _ _ 1 _ _ _ h.row, cell_of_row _ _ 2 _ _ _ h.row, cell_of_row _ _ 3 _ _ _ h.row, h.tk.c0, h.tk.c1⟩)
        refine wp_region_T (fun w' : World => w'.cell? ⟨N, 0, none⟩ = some (.int .u8 kd) ∧ w'.cell? ⟨N, 1, none⟩ = some ((.slice A5 n5 c5)) ∧ w'.cell? ⟨N, 2, none⟩ = some (zS) ∧ w'.cell? ⟨N, 3, none⟩ = some (zS) ∧ w'.cell? ⟨q, 0, none⟩ = some (.string (bs l3)) ∧ w'.cell? ⟨q, 1, none⟩ = some (.bool true)) 11 (by kernel_rfl) (by kernel_rfl) ?_
        have hS := HKP.out wE.drew (HSF.out.below (Below.refl _ _).drew)
        refine take_T 0 45 (.agg #[.int .u8 kd, (.slice A5 n5 c5), zS, zS]) rfl (by rfl) (by kernel_rfl) (by decide) (by kernel_rfl) (by kernel_rfl) (by kernel_rfl) (fun _ _ _ h => h) (Or.inl ⟨by rfl, fun w' hSw => by obtain ⟨s0, s1, s2, s3, s4, s5⟩ := hSw; go_simp⟩) hS ?_
        simp only [List.setIfInBounds_toArray, List.set_cons_zero, List.set_cons_succ]
        refine take_T 1 46 (.pointer (some ⟨q, 1, none⟩)) rfl (by rfl) (by kernel_rfl) (by decide) (by kernel_rfl) (by kernel_rfl) (by kernel_rfl) (fun _ _ _ h => h) (Or.inl ⟨by rfl, fun w' hSw => by obtain ⟨s0, s1, s2, s3, s4, s5⟩ := hSw; go_simp⟩) hS ?_
        simp only [List.setIfInBounds_toArray, List.set_cons_zero, List.set_cons_succ]
        refine take_T 2 47 (.bool true) rfl (by rfl) (by kernel_rfl) (by decide) (by kernel_rfl) (by kernel_rfl) (by kernel_rfl) (fun _ _ _ h => h) (Or.inl ⟨by rfl, fun w' hSw => by obtain ⟨s0, s1, s2, s3, s4, s5⟩ := hSw; go_simp⟩) hS ?_
        simp only [List.setIfInBounds_toArray, List.set_cons_zero, List.set_cons_succ]
        refine take_T 3 48 (.bool false) rfl (by rfl) (by kernel_rfl) (by decide) (by kernel_rfl) (by kernel_rfl) (by kernel_rfl) (fun _ _ _ h => h) (Or.inl ⟨by rfl, fun w' hSw => by obtain ⟨s0, s1, s2, s3, s4, s5⟩ := hSw; go_simp⟩) hS ?_
        simp only [List.setIfInBounds_toArray, List.set_cons_zero, List.set_cons_succ]
        refine take_T 4 49 (.bool false) rfl (by rfl) (by kernel_rfl) (by decide) (by kernel_rfl) (by kernel_rfl) (by kernel_rfl) (fun _ _ _ h => h) (Or.inl ⟨by rfl, fun w' hSw => by obtain ⟨s0, s1, s2, s3, s4, s5⟩ := hSw; go_simp⟩) hS ?_
        simp only [List.setIfInBounds_toArray, List.set_cons_zero, List.set_cons_succ]
        refine take_T 5 50 undef rfl (by rfl) (by kernel_rfl) (by decide) (by kernel_rfl) (by kernel_rfl) (by kernel_rfl) (fun _ _ _ h => h) (Or.inr ⟨by rfl, rfl⟩) hS ?_
        simp only [List.setIfInBounds_toArray, List.set_cons_zero, List.set_cons_succ]
        refine take_T 6 51 undef rfl (by rfl) (by kernel_rfl) (by decide) (by kernel_rfl) (by kernel_rfl) (by kernel_rfl) (fun _ _ _ h => h) (Or.inr ⟨by rfl, rfl⟩) hS ?_
        simp only [List.setIfInBounds_toArray, List.set_cons_zero, List.set_cons_succ]
        refine take_T 7 52 undef rfl (by rfl) (by kernel_rfl) (by decide) (by kernel_rfl) (by kernel_rfl) (by kernel_rfl) (fun _ _ _ h => h) (Or.inr ⟨by rfl, rfl⟩) hS ?_
        simp only [List.setIfInBounds_toArray, List.set_cons_zero, List.set_cons_succ]
        refine take_T 8 53 undef rfl (by rfl) (by kernel_rfl) (by decide) (by kernel_rfl) (by kernel_rfl) (by kernel_rfl) (fun _ _ _ h => h) (Or.inr ⟨by rfl, rfl⟩) hS ?_
        simp only [List.setIfInBounds_toArray, List.set_cons_zero, List.set_cons_succ]
        refine take_T 9 54 (.bool false) rfl (by rfl) (by kernel_rfl) (by decide) (by kernel_rfl) (by kernel_rfl) (by kernel_rfl) (fun _ _ _ h => h) (Or.inl ⟨by rfl, fun w' hSw => by obtain ⟨s0, s1, s2, s3, s4, s5⟩ := hSw; go_simp⟩) hS ?_
        simp only [List.setIfInBounds_toArray, List.set_cons_zero, List.set_cons_succ]
        have HS9 := Lib.hid (show TkStI w q N kd ((.slice A5 n5 c5)) DE l3 true wE.drew from HSF.out.below (Below.refl _ _).drew)
        refine only_T 10 rfl (by kernel_rfl) (by decide) (by rfl) (fun K hK => ?_)
        refine wp_store_row 31 (.tmp 2) (.tmp 45) rfl w.heap.size #[.int .u8 kd, (.slice A5 n5 c5), zS, zS] rfl rfl 31 #[.int .u8 0, zS, zS, zS] HS9.out.res (by kernel_rfl) rfl HONE.out ?_
        obtain ⟨hown, hrow9⟩ := HS9.out.out HND.out
        have HOWN := Lib.hid hown
        have HROW9 := Lib.hid hrow9
        have hS2 : (wE.drew.setRow w.heap.size #[.int .u8 kd, (.slice A5 n5 c5), zS, zS]).cell? ⟨N, 0, none⟩ = some (.int .u8 kd) ∧ (wE.drew.setRow w.heap.size #[.int .u8 kd, (.slice A5 n5 c5), zS, zS]).cell? ⟨N, 1, none⟩ = some ((.slice A5 n5 c5)) ∧ (wE.drew.setRow w.heap.size #[.int .u8 kd, (.slice A5 n5 c5), zS, zS]).cell? ⟨N, 2, none⟩ = some (zS) ∧ (wE.drew.setRow w.heap.size #[.int .u8 kd, (.slice A5 n5 c5), zS, zS]).cell? ⟨N, 3, none⟩ = some (zS) ∧ (wE.drew.setRow w.heap.size #[.int .u8 kd, (.slice A5 n5 c5), zS, zS]).cell? ⟨q, 0, none⟩ = some (.string (bs l3)) ∧ (wE.drew.setRow w.heap.size #[.int .u8 kd, (.slice A5 n5 c5), zS, zS]).cell? ⟨q, 1, none⟩ = some (.bool true) := by
          have hs := grown_setRow wE.drew w.heap.size #[.int .u8 kd, (.slice A5 n5 c5), zS, zS]
          have rN := (hs.block N (row_lt HS9.out.row) (fun e => Nat.ne_of_lt HS9.out.n1 (Option.some.inj e).symm)).trans HS9.out.row
          have rq := (hs.block q HS9.out.tk.lt (fun e => Nat.ne_of_lt HS9.out.q1 (Option.some.inj e).symm)).trans HS9.out.tk
          exact ⟨cell_of_row _ _ 0 _ _ _ rN, cell_of_row _ _ 1 _ _ _ rN, cell_of_row _ _ 2 _ _ _ rN, cell_of_row _ _ 3 _ _ _ rN, cell_of_row _ _ 0 _ _ _ rq, cell_of_row _ _ 1 _ _ _ rq⟩
        refine hK.out _ _ hS2 ?_
        clear hK K
        try simp only [Act.put, List.setIfInBounds_toArray, List.set_cons_zero, List.set_cons_succ]
        clear hS hS2 hown hrow9
        generalize World.setRow _ _ _ = wz at *
        refine done_T (by kernel_rfl) ?_
        simp only [List.drop_succ_cons, List.drop_zero]
        go_wp2_with fail
        rw [Exit.noGoto_ret]
        refine bodyPost_ret (v := .tuple #[.agg #[.int .u8 kd, (.slice A5 n5 c5), zS, zS], .bool false]) (results_row2 rfl _ _ w.heap.size 31 #[.int .u8 kd, (.slice A5 n5 c5), zS, zS] (0, 0) _ rfl HROW9.out Tryz.underlying31 rfl (by kernel_rfl) _ rfl) rfl ?_
        exact ⟨_, by rw [HR2.out], HOWN.out⟩
    · have HDN := Lib.hid ((Hid.out hinv).done hlt)
      clear hinv
      have HSX := Lib.hid (Hid.out hst)
      clear hst
      have HONE := Lib.hid (show (#[.int .u8 kd, v1, zS, zS] : Array Value).all (·.oneCell') = true by rcases HSX.out.own.1.2 with ⟨h, _⟩ | ⟨g, cap, cur, h, _⟩ <;> (subst h; exact four_cells _ _ _ _ rfl rfl rfl rfl))
      have HLE := HLB
      cases b
      · go_wp2_with fail
        clear hlt hi
        have HTR := Lib.hid (show ∀ w', Calls Tryz.prog 154 #[.string (bs l), .string ⟨#[0]⟩] w' fun e w2 => e = .returned (.string (bs (Lib.trimB l 0))) ∧ (w2 = w' ∨ w2 = w'.drew) from fun w' => Tryz.strings_Trim_one (bs l) 0 (by decide) w' (by have := HLE.out; unfold maxLen at this; omega))
        have HND := Lib.hid (show (tkN s.data.toList).1 = ⟨kd, D, [], []⟩ by rw [HT.out, HDN.out])
        by_cases hz : allz l = true
        · have HR2 := Lib.hid (show (tkN s.data.toList).2 = true by rw [HT.out, HDN.out]; show (!false && allz l) = true; rw [hz]; rfl)
          have hz1 : (bs (Lib.trimB l 0)).toList = [] := str_nil (by rw [bs_size, (trimB_nil l).2 hz]; rfl)
          have hz2 : (bs (Lib.trimB l 0)).toList.isEmpty = true := by rw [hz1]; rfl
          clear hz
          have HSF := Lib.hid (HSX.out)
          have HKP := Lib.hid (show ∀ w' : World, TkStI w q N kd (v1) D l false w' → w'.cell? ⟨N, 0, none⟩ = some (.int .u8 kd) ∧ w'.cell? ⟨N, 1, none⟩ = some (v1) ∧ w'.cell? ⟨N, 2, none⟩ = some (zS) ∧ w'.cell? ⟨N, 3, none⟩ = some (zS) ∧ w'.cell? ⟨q, 0, none⟩ = some (.string (bs l)) ∧ w'.cell? ⟨q, 1, none⟩ = some (.bool false) from fun w' h => ⟨cell_of_row _ _ 0 _ _ _ h.row, cell_of_row _ _ 1 _ _ _ h.row, cell_of_row _ _ 2 _ _ _ h.row, cell_of_row _ _ 3 _ _ _ h.row, h.tk.c0, h.tk.c1⟩)
          refine wp_region_T (fun w' : World => w'.cell? ⟨N, 0, none⟩ = some (.int .u8 kd) ∧ w'.cell? ⟨N, 1, none⟩ = some (v1) ∧ w'.cell? ⟨N, 2, none⟩ = some (zS) ∧ w'.cell? ⟨N, 3, none⟩ = some (zS) ∧ w'.cell? ⟨q, 0, none⟩ = some (.string (bs l)) ∧ w'.cell? ⟨q, 1, none⟩ = some (.bool false)) 11 (by kernel_rfl) (by kernel_rfl) ?_
          have hS := HKP.out wr.drew (HSF.out.below (Below.refl _ _).drew)
          refine take_T 0 45 (.agg #[.int .u8 kd, v1, zS, zS]) rfl (by rfl) (by kernel_rfl) (by decide) (by kernel_rfl) (by kernel_rfl) (by kernel_rfl) (fun _ _ _ h => h) (Or.inl ⟨by rfl, fun w' hSw => by obtain ⟨s0, s1, s2, s3, s4, s5⟩ := hSw; go_simp⟩) hS ?_
          simp only [List.setIfInBounds_toArray, List.set_cons_zero, List.set_cons_succ]
          refine take_T 1 46 (.pointer (some ⟨q, 1, none⟩)) rfl (by rfl) (by kernel_rfl) (by decide) (by kernel_rfl) (by kernel_rfl) (by kernel_rfl) (fun _ _ _ h => h) (Or.inl ⟨by rfl, fun w' hSw => by obtain ⟨s0, s1, s2, s3, s4, s5⟩ := hSw; go_simp⟩) hS ?_
          simp only [List.setIfInBounds_toArray, List.set_cons_zero, List.set_cons_succ]
          refine take_T 2 47 (.bool false) rfl (by rfl) (by kernel_rfl) (by decide) (by kernel_rfl) (by kernel_rfl) (by kernel_rfl) (fun _ _ _ h => h) (Or.inl ⟨by rfl, fun w' hSw => by obtain ⟨s0, s1, s2, s3, s4, s5⟩ := hSw; go_simp⟩) hS ?_
          simp only [List.setIfInBounds_toArray, List.set_cons_zero, List.set_cons_succ]
          refine take_T 3 48 (.bool true) rfl (by rfl) (by kernel_rfl) (by decide) (by kernel_rfl) (by kernel_rfl) (by kernel_rfl) (fun _ _ _ h => h) (Or.inl ⟨by rfl, fun w' hSw => by obtain ⟨s0, s1, s2, s3, s4, s5⟩ := hSw; go_simp⟩) hS ?_
          simp only [List.setIfInBounds_toArray, List.set_cons_zero, List.set_cons_succ]
          refine take_T 4 49 (.bool true) rfl (by rfl) (by kernel_rfl) (by decide) (by kernel_rfl) (by kernel_rfl) (by kernel_rfl) (fun _ _ _ h => h) (Or.inl ⟨by rfl, fun w' hSw => by obtain ⟨s0, s1, s2, s3, s4, s5⟩ := hSw; go_simp⟩) hS ?_
          simp only [List.setIfInBounds_toArray, List.set_cons_zero, List.set_cons_succ]
          refine take_T 5 50 (.pointer (some ⟨q, 0, none⟩)) rfl (by rfl) (by kernel_rfl) (by decide) (by kernel_rfl) (by kernel_rfl) (by kernel_rfl) (fun _ _ _ h => h) (Or.inl ⟨by rfl, fun w' hSw => by obtain ⟨s0, s1, s2, s3, s4, s5⟩ := hSw; go_simp⟩) hS ?_
          simp only [List.setIfInBounds_toArray, List.set_cons_zero, List.set_cons_succ]
          refine take_T 6 51 (.string (bs l)) rfl (by rfl) (by kernel_rfl) (by decide) (by kernel_rfl) (by kernel_rfl) (by kernel_rfl) (fun _ _ _ h => h) (Or.inl ⟨by rfl, fun w' hSw => by obtain ⟨s0, s1, s2, s3, s4, s5⟩ := hSw; go_simp⟩) hS ?_
          simp only [List.setIfInBounds_toArray, List.set_cons_zero, List.set_cons_succ]
          refine only_T 7 rfl (by kernel_rfl) (by decide) (by rfl) (fun K hK => ?_)
          go_wp2_with fail
          go_at_call 154
          refine (HTR.out _).mono ?_
          rintro e w9 ⟨rfl, hw9⟩
          have HS9 := Lib.hid (show TkStI w q N kd (v1) D l false w9 from by
            rcases hw9 with rfl | rfl
            · exact HSF.out.below (Below.refl _ _).drew
            · exact (HSF.out.below (Below.refl _ _).drew).below (Below.refl _ _).drew)
          clear hw9
          have hS2 := HKP.out _ HS9.out
          refine hK.out _ _ hS2 ?_
          clear hK K
          try simp only [Act.put, List.setIfInBounds_toArray, List.set_cons_zero, List.set_cons_succ]
          clear hS
          have hS := hS2
          clear hS2
          refine take_T 8 53 (.bool true) rfl (by rfl) (by kernel_rfl) (by decide) (by kernel_rfl) (by kernel_rfl) (by kernel_rfl) (fun _ _ _ h => h) (Or.inl ⟨by rfl, fun w' hSw => by obtain ⟨s0, s1, s2, s3, s4, s5⟩ := hSw; go_simp⟩) hS ?_
          simp only [List.setIfInBounds_toArray, List.set_cons_zero, List.set_cons_succ]
          refine take_T 9 54 (.bool true) rfl (by rfl) (by kernel_rfl) (by decide) (by kernel_rfl) (by kernel_rfl) (by kernel_rfl) (fun _ _ _ h => h) (Or.inl ⟨by rfl, fun w' hSw => by obtain ⟨s0, s1, s2, s3, s4, s5⟩ := hSw; go_simp⟩) hS ?_
          simp only [List.setIfInBounds_toArray, List.set_cons_zero, List.set_cons_succ]
          refine only_T 10 rfl (by kernel_rfl) (by decide) (by rfl) (fun K hK => ?_)
          refine wp_store_row 31 (.tmp 2) (.tmp 45) rfl w.heap.size #[.int .u8 kd, v1, zS, zS] rfl rfl 31 #[.int .u8 0, zS, zS, zS] HS9.out.res (by kernel_rfl) rfl HONE.out ?_
          obtain ⟨hown, hrow9⟩ := HS9.out.out HND.out
          have HOWN := Lib.hid hown
          have HROW9 := Lib.hid hrow9
          have hS2 : (w9.setRow w.heap.size #[.int .u8 kd, v1, zS, zS]).cell? ⟨N, 0, none⟩ = some (.int .u8 kd) ∧ (w9.setRow w.heap.size #[.int .u8 kd, v1, zS, zS]).cell? ⟨N, 1, none⟩ = some (v1) ∧ (w9.setRow w.heap.size #[.int .u8 kd, v1, zS, zS]).cell? ⟨N, 2, none⟩ = some (zS) ∧ (w9.setRow w.heap.size #[.int .u8 kd, v1, zS, zS]).cell? ⟨N, 3, none⟩ = some (zS) ∧ (w9.setRow w.heap.size #[.int .u8 kd, v1, zS, zS]).cell? ⟨q, 0, none⟩ = some (.string (bs l)) ∧ (w9.setRow w.heap.size #[.int .u8 kd, v1, zS, zS]).cell? ⟨q, 1, none⟩ = some (.bool false) := by
            have hs := grown_setRow w9 w.heap.size #[.int .u8 kd, v1, zS, zS]
            have rN := (hs.block N (row_lt HS9.out.row) (fun e => Nat.ne_of_lt HS9.out.n1 (Option.some.inj e).symm)).trans HS9.out.row
            have rq := (hs.block q HS9.out.tk.lt (fun e => Nat.ne_of_lt HS9.out.q1 (Option.some.inj e).symm)).trans HS9.out.tk
            exact ⟨cell_of_row _ _ 0 _ _ _ rN, cell_of_row _ _ 1 _ _ _ rN, cell_of_row _ _ 2 _ _ _ rN, cell_of_row _ _ 3 _ _ _ rN, cell_of_row _ _ 0 _ _ _ rq, cell_of_row _ _ 1 _ _ _ rq⟩
          refine hK.out _ _ hS2 ?_
          clear hK K
          try simp only [Act.put, List.setIfInBounds_toArray, List.set_cons_zero, List.set_cons_succ]
          clear hS hS2 hown hrow9
          generalize World.setRow _ _ _ = wz at *
          refine done_T (by kernel_rfl) ?_
          simp only [List.drop_succ_cons, List.drop_zero]
          go_wp2_with fail
          rw [Exit.noGoto_ret]
          refine bodyPost_ret (v := .tuple #[.agg #[.int .u8 kd, v1, zS, zS], .bool true]) (results_row2 rfl _ _ w.heap.size 31 #[.int .u8 kd, v1, zS, zS] (0, 0) _ rfl HROW9.out Tryz.underlying31 rfl (by kernel_rfl) _ rfl) rfl ?_
          exact ⟨_, by rw [HR2.out], HOWN.out⟩
        · have hz0 : (bs (Lib.trimB l 0)).size ≠ 0 := by
            rw [bs_size]; intro h; exact hz ((trimB_nil l).1 (List.eq_nil_of_length_eq_zero h))
          have HR2 := Lib.hid (show (tkN s.data.toList).2 = false by rw [HT.out, HDN.out]; show (!false && allz l) = false; rw [Bool.eq_false_iff.2 hz]; rfl)
          have hz1 := str_empty hz0
          have hz2 := str_nonil hz0
          clear hz hz0
          have HSF := Lib.hid (HSX.out)
          have HKP := Lib.hid (show ∀ w' : World, TkStI w q N kd (v1) D l false w' → w'.cell? ⟨N, 0, none⟩ = some (.int .u8 kd) ∧ w'.cell? ⟨N, 1, none⟩ = some (v1) ∧ w'.cell? ⟨N, 2, none⟩ = some (zS) ∧ w'.cell? ⟨N, 3, none⟩ = some (zS) ∧ w'.cell? ⟨q, 0, none⟩ = some (.string (bs l)) ∧ w'.cell? ⟨q, 1, none⟩ = some (.bool false) from fun w' h => ⟨cell_of_row _ _ 0 _ _ _ h.row, cell_of_row _ _ 1 _ _ _ h.row, cell_of_row _ _ 2 _ _ _ h.row, cell_of_row _ _ 3 _ _ _ h.row, h.tk.c0, h.tk.c1⟩)
          refine wp_region_T (fun w' : World => w'.cell? ⟨N, 0, none⟩ = some (.int .u8 kd) ∧ w'.cell? ⟨N, 1, none⟩ = some (v1) ∧ w'.cell? ⟨N, 2, none⟩ = some (zS) ∧ w'.cell? ⟨N, 3, none⟩ = some (zS) ∧ w'.cell? ⟨q, 0, none⟩ = some (.string (bs l)) ∧ w'.cell? ⟨q, 1, none⟩ = some (.bool false)) 11 (by kernel_rfl) (by kernel_rfl) ?_
          have hS := HKP.out wr.drew (HSF.out.below (Below.refl _ _).drew)
          refine take_T 0 45 (.agg #[.int .u8 kd, v1, zS, zS]) rfl (by rfl) (by kernel_rfl) (by decide) (by kernel_rfl) (by kernel_rfl) (by kernel_rfl) (fun _ _ _ h => h) (Or.inl ⟨by rfl, fun w' hSw => by obtain ⟨s0, s1, s2, s3, s4, s5⟩ := hSw; go_simp⟩) hS ?_
          simp only [List.setIfInBounds_toArray, List.set_cons_zero, List.set_cons_succ]
          refine take_T 1 46 (.pointer (some ⟨q, 1, none⟩)) rfl (by rfl) (by kernel_rfl) (by decide) (by kernel_rfl) (by kernel_rfl) (by kernel_rfl) (fun _ _ _ h => h) (Or.inl ⟨by rfl, fun w' hSw => by obtain ⟨s0, s1, s2, s3, s4, s5⟩ := hSw; go_simp⟩) hS ?_
          simp only [List.setIfInBounds_toArray, List.set_cons_zero, List.set_cons_succ]
          refine take_T 2 47 (.bool false) rfl (by rfl) (by kernel_rfl) (by decide) (by kernel_rfl) (by kernel_rfl) (by kernel_rfl) (fun _ _ _ h => h) (Or.inl ⟨by rfl, fun w' hSw => by obtain ⟨s0, s1, s2, s3, s4, s5⟩ := hSw; go_simp⟩) hS ?_
          simp only [List.setIfInBounds_toArray, List.set_cons_zero, List.set_cons_succ]
          refine take_T 3 48 (.bool true) rfl (by rfl) (by kernel_rfl) (by decide) (by kernel_rfl) (by kernel_rfl) (by kernel_rfl) (fun _ _ _ h => h) (Or.inl ⟨by rfl, fun w' hSw => by obtain ⟨s0, s1, s2, s3, s4, s5⟩ := hSw; go_simp⟩) hS ?_
          simp only [List.setIfInBounds_toArray, List.set_cons_zero, List.set_cons_succ]
          refine take_T 4 49 (.bool true) rfl (by rfl) (by kernel_rfl) (by decide) (by kernel_rfl) (by kernel_rfl) (by kernel_rfl) (fun _ _ _ h => h) (Or.inl ⟨by rfl, fun w' hSw => by obtain ⟨s0, s1, s2, s3, s4, s5⟩ := hSw; go_simp⟩) hS ?_
          simp only [List.setIfInBounds_toArray, List.set_cons_zero, List.set_cons_succ]
          refine take_T 5 50 (.pointer (some ⟨q, 0, none⟩)) rfl (by rfl) (by kernel_rfl) (by decide) (by kernel_rfl) (by kernel_rfl) (by kernel_rfl) (fun _ _ _ h => h) (Or.inl ⟨by rfl, fun w' hSw => by obtain ⟨s0, s1, s2, s3, s4, s5⟩ := hSw; go_simp⟩) hS ?_
          simp only [List.setIfInBounds_toArray, List.set_cons_zero, List.set_cons_succ]
          refine take_T 6 51 (.string (bs l)) rfl (by rfl) (by kernel_rfl) (by decide) (by kernel_rfl) (by kernel_rfl) (by kernel_rfl) (fun _ _ _ h => h) (Or.inl ⟨by rfl, fun w' hSw => by obtain ⟨s0, s1, s2, s3, s4, s5⟩ := hSw; go_simp⟩) hS ?_
          simp only [List.setIfInBounds_toArray, List.set_cons_zero, List.set_cons_succ]
          refine only_T 7 rfl (by kernel_rfl) (by decide) (by rfl) (fun K hK => ?_)
          go_wp2_with fail
          go_at_call 154
          refine (HTR.out _).mono ?_
          rintro e w9 ⟨rfl, hw9⟩
          have HS9 := Lib.hid (show TkStI w q N kd (v1) D l false w9 from by
            rcases hw9 with rfl | rfl
            · exact HSF.out.below (Below.refl _ _).drew
            · exact (HSF.out.below (Below.refl _ _).drew).below (Below.refl _ _).drew)
          clear hw9
          have hS2 := HKP.out _ HS9.out
          refine hK.out _ _ hS2 ?_
          clear hK K
          try simp only [Act.put, List.setIfInBounds_toArray, List.set_cons_zero, List.set_cons_succ]
          clear hS
          have hS := hS2
          clear hS2
          refine take_T 8 53 (.bool false) rfl (by rfl) (by kernel_rfl) (by decide) (by kernel_rfl) (by kernel_rfl) (by kernel_rfl) (fun _ _ _ h => h) (Or.inl ⟨by rfl, fun w' hSw => by obtain ⟨s0, s1, s2, s3, s4, s5⟩ := hSw; go_simp⟩) hS ?_
          simp only [List.setIfInBounds_toArray, List.set_cons_zero, List.set_cons_succ]
          refine take_T 9 54 (.bool false) rfl (by rfl) (by kernel_rfl) (by decide) (by kernel_rfl) (by kernel_rfl) (by kernel_rfl) (fun _ _ _ h => h) (Or.inl ⟨by rfl, fun w' hSw => by obtain ⟨s0, s1, s2, s3, s4, s5⟩ := hSw; go_simp⟩) hS ?_
          simp only [List.setIfInBounds_toArray, List.set_cons_zero, List.set_cons_succ]
          refine only_T 10 rfl (by kernel_rfl) (by decide) (by rfl) (fun K hK => ?_)
          refine wp_store_row 31 (.tmp 2) (.tmp 45) rfl w.heap.size #[.int .u8 kd, v1, zS, zS] rfl rfl 31 #[.int .u8 0, zS, zS, zS] HS9.out.res (by kernel_rfl) rfl HONE.out ?_
          obtain ⟨hown, hrow9⟩ := HS9.out.out HND.out
          have HOWN := Lib.hid hown
          have HROW9 := Lib.hid hrow9
          have hS2 : (w9.setRow w.heap.size #[.int .u8 kd, v1, zS, zS]).cell? ⟨N, 0, none⟩ = some (.int .u8 kd) ∧ (w9.setRow w.heap.size #[.int .u8 kd, v1, zS, zS]).cell? ⟨N, 1, none⟩ = some (v1) ∧ (w9.setRow w.heap.size #[.int .u8 kd, v1, zS, zS]).cell? ⟨N, 2, none⟩ = some (zS) ∧ (w9.setRow w.heap.size #[.int .u8 kd, v1, zS, zS]).cell? ⟨N, 3, none⟩ = some (zS) ∧ (w9.setRow w.heap.size #[.int .u8 kd, v1, zS, zS]).cell? ⟨q, 0, none⟩ = some (.string (bs l)) ∧ (w9.setRow w.heap.size #[.int .u8 kd, v1, zS, zS]).cell? ⟨q, 1, none⟩ = some (.bool false) := by
            have hs := grown_setRow w9 w.heap.size #[.int .u8 kd, v1, zS, zS]
            have rN := (hs.block N (row_lt HS9.out.row) (fun e => Nat.ne_of_lt HS9.out.n1 (Option.some.inj e).symm)).trans HS9.out.row
            have rq := (hs.block q HS9.out.tk.lt (fun e => Nat.ne_of_lt HS9.out.q1 (Option.some.inj e).symm)).trans HS9.out.tk
            exact ⟨cell_of_row _ _ 0 _ _ _ rN, cell_of_row _ _ 1 _ _ _ rN, cell_of_row _ _ 2 _ _ _ rN, cell_of_row _ _ 3 _ _ _ rN, cell_of_row _ _ 0 _ _ _ rq, cell_of_row _ _ 1 _ _ _ rq⟩
          refine hK.out _ _ hS2 ?_
          clear hK K
          try simp only [Act.put, List.setIfInBounds_toArray, List.set_cons_zero, List.set_cons_succ]
          clear hS hS2 hown hrow9
          generalize World.setRow _ _ _ = wz at *
          refine done_T (by kernel_rfl) ?_
          simp only [List.drop_succ_cons, List.drop_zero]
          go_wp2_with fail
          rw [Exit.noGoto_ret]
          refine bodyPost_ret (v := .tuple #[.agg #[.int .u8 kd, v1, zS, zS], .bool false]) (results_row2 rfl _ _ w.heap.size 31 #[.int .u8 kd, v1, zS, zS] (0, 0) _ rfl HROW9.out Tryz.underlying31 rfl (by kernel_rfl) _ rfl) rfl ?_
          exact ⟨_, by rw [HR2.out], HOWN.out⟩
      · go_wp2_with fail
        clear hlt hi
        have HR2 := Lib.hid (show (tkN s.data.toList).2 = false by rw [HT.out, HDN.out]; rfl)
        have HND := Lib.hid (show (tkN s.data.toList).1 = ⟨kd, D, [], []⟩ by rw [HT.out, HDN.out])
        have HSF := Lib.hid (HSX.out)
        have HKP := Lib.hid (show ∀ w' : World, TkStI w q N kd (v1) D l true w' → w'.cell? ⟨N, 0, none⟩ = some (.int .u8 kd) ∧ w'.cell? ⟨N, 1, none⟩ = some (v1) ∧ w'.cell? ⟨N, 2, none⟩ = some (zS) ∧ w'.cell? ⟨N, 3, none⟩ = some (zS) ∧ w'.cell? ⟨q, 0, none⟩ = some (.string (bs l)) ∧ w'.cell? ⟨q, 1, none⟩ = some (.bool true) from fun w' h => ⟨cell_of_row _ _ 0 _ _ _ h.row, cell_of_row _ _ 1 _ _ _ h.row, cell_of_row _ _ 2 _ _ _ h.row, cell_of_row _ _ 3 _ _ _ h.row, h.tk.c0, h.tk.c1⟩)
        refine wp_region_T (fun w' : World => w'.cell? ⟨N, 0, none⟩ = some (.int .u8 kd) ∧ w'.cell? ⟨N, 1, none⟩ = some (v1) ∧ w'.cell? ⟨N, 2, none⟩ = some (zS) ∧ w'.cell? ⟨N, 3, none⟩ = some (zS) ∧ w'.cell? ⟨q, 0, none⟩ = some (.string (bs l)) ∧ w'.cell? ⟨q, 1, none⟩ = some (.bool true)) 11 (by kernel_rfl) (by kernel_rfl) ?_
        have hS := HKP.out wr.drew (HSF.out.below (Below.refl _ _).drew)
        refine take_T 0 45 (.agg #[.int .u8 kd, v1, zS, zS]) rfl (by rfl) (by kernel_rfl) (by decide) (by kernel_rfl) (by kernel_rfl) (by kernel_rfl) (fun _ _ _ h => h) (Or.inl ⟨by rfl, fun w' hSw => by obtain ⟨s0, s1, s2, s3, s4, s5⟩ := hSw; go_simp⟩) hS ?_
        simp only [List.setIfInBounds_toArray, List.set_cons_zero, List.set_cons_succ]
        refine take_T 1 46 (.pointer (some ⟨q, 1, none⟩)) rfl (by rfl) (by kernel_rfl) (by decide) (by kernel_rfl) (by kernel_rfl) (by kernel_rfl) (fun _ _ _ h => h) (Or.inl ⟨by rfl, fun w' hSw => by obtain ⟨s0, s1, s2, s3, s4, s5⟩ := hSw; go_simp⟩) hS ?_
        simp only [List.setIfInBounds_toArray, List.set_cons_zero, List.set_cons_succ]
        refine take_T 2 47 (.bool true) rfl (by rfl) (by kernel_rfl) (by decide) (by kernel_rfl) (by kernel_rfl) (by kernel_rfl) (fun _ _ _ h => h) (Or.inl ⟨by rfl, fun w' hSw => by obtain ⟨s0, s1, s2, s3, s4, s5⟩ := hSw; go_simp⟩) hS ?_
        simp only [List.setIfInBounds_toArray, List.set_cons_zero, List.set_cons_succ]
        refine take_T 3 48 (.bool false) rfl (by rfl) (by kernel_rfl) (by decide) (by kernel_rfl) (by kernel_rfl) (by kernel_rfl) (fun _ _ _ h => h) (Or.inl ⟨by rfl, fun w' hSw => by obtain ⟨s0, s1, s2, s3, s4, s5⟩ := hSw; go_simp⟩) hS ?_
        simp only [List.setIfInBounds_toArray, List.set_cons_zero, List.set_cons_succ]
        refine take_T 4 49 (.bool false) rfl (by rfl) (by kernel_rfl) (by decide) (by kernel_rfl) (by kernel_rfl) (by kernel_rfl) (fun _ _ _ h => h) (Or.inl ⟨by rfl, fun w' hSw => by obtain ⟨s0, s1, s2, s3, s4, s5⟩ := hSw; go_simp⟩) hS ?_
        simp only [List.setIfInBounds_toArray, List.set_cons_zero, List.set_cons_succ]
        refine take_T 5 50 undef rfl (by rfl) (by kernel_rfl) (by decide) (by kernel_rfl) (by kernel_rfl) (by kernel_rfl) (fun _ _ _ h => h) (Or.inr ⟨by rfl, rfl⟩) hS ?_
        simp only [List.setIfInBounds_toArray, List.set_cons_zero, List.set_cons_succ]
        refine take_T 6 51 undef rfl (by rfl) (by kernel_rfl) (by decide) (by kernel_rfl) (by kernel_rfl) (by kernel_rfl) (fun _ _ _ h => h) (Or.inr ⟨by rfl, rfl⟩) hS ?_
        simp only [List.setIfInBounds_toArray, List.set_cons_zero, List.set_cons_succ]
        refine take_T 7 52 undef rfl (by rfl) (by kernel_rfl) (by decide) (by kernel_rfl) (by kernel_rfl) (by kernel_rfl) (fun _ _ _ h => h) (Or.inr ⟨by rfl, rfl⟩) hS ?_
        simp only [List.setIfInBounds_toArray, List.set_cons_zero, List.set_cons_succ]
        refine take_T 8 53 undef rfl (by rfl) (by kernel_rfl) (by decide) (by kernel_rfl) (by kernel_rfl) (by kernel_rfl) (fun _ _ _ h => h) (Or.inr ⟨by rfl, rfl⟩) hS ?_
        simp only [List.setIfInBounds_toArray, List.set_cons_zero, List.set_cons_succ]
        refine take_T 9 54 (.bool false) rfl (by rfl) (by kernel_rfl) (by decide) (by kernel_rfl) (by kernel_rfl) (by kernel_rfl) (fun _ _ _ h => h) (Or.inl ⟨by rfl, fun w' hSw => by obtain ⟨s0, s1, s2, s3, s4, s5⟩ := hSw; go_simp⟩) hS ?_
        simp only [List.setIfInBounds_toArray, List.set_cons_zero, List.set_cons_succ]
        have HS9 := Lib.hid (show TkStI w q N kd (v1) D l true wr.drew from HSF.out.below (Below.refl _ _).drew)
        refine only_T 10 rfl (by kernel_rfl) (by decide) (by rfl) (fun K hK => ?_)
        refine wp_store_row 31 (.tmp 2) (.tmp 45) rfl w.heap.size #[.int .u8 kd, v1, zS, zS] rfl rfl 31 #[.int .u8 0, zS, zS, zS] HS9.out.res (by kernel_rfl) rfl HONE.out ?_
        obtain ⟨hown, hrow9⟩ := HS9.out.out HND.out
        have HOWN := Lib.hid hown
        have HROW9 := Lib.hid hrow9
        have hS2 : (wr.drew.setRow w.heap.size #[.int .u8 kd, v1, zS, zS]).cell? ⟨N, 0, none⟩ = some (.int .u8 kd) ∧ (wr.drew.setRow w.heap.size #[.int .u8 kd, v1, zS, zS]).cell? ⟨N, 1, none⟩ = some (v1) ∧ (wr.drew.setRow w.heap.size #[.int .u8 kd, v1, zS, zS]).cell? ⟨N, 2, none⟩ = some (zS) ∧ (wr.drew.setRow w.heap.size #[.int .u8 kd, v1, zS, zS]).cell? ⟨N, 3, none⟩ = some (zS) ∧ (wr.drew.setRow w.heap.size #[.int .u8 kd, v1, zS, zS]).cell? ⟨q, 0, none⟩ = some (.string (bs l)) ∧ (wr.drew.setRow w.heap.size #[.int .u8 kd, v1, zS, zS]).cell? ⟨q, 1, none⟩ = some (.bool true) := by
          have hs := grown_setRow wr.drew w.heap.size #[.int .u8 kd, v1, zS, zS]
          have rN := (hs.block N (row_lt HS9.out.row) (fun e => Nat.ne_of_lt HS9.out.n1 (Option.some.inj e).symm)).trans HS9.out.row
          have rq := (hs.block q HS9.out.tk.lt (fun e => Nat.ne_of_lt HS9.out.q1 (Option.some.inj e).symm)).trans HS9.out.tk
          exact ⟨cell_of_row _ _ 0 _ _ _ rN, cell_of_row _ _ 1 _ _ _ rN, cell_of_row _ _ 2 _ _ _ rN, cell_of_row _ _ 3 _ _ _ rN, cell_of_row _ _ 0 _ _ _ rq, cell_of_row _ _ 1 _ _ _ rq⟩
        refine hK.out _ _ hS2 ?_
        clear hK K
        try simp only [Act.put, List.setIfInBounds_toArray, List.set_cons_zero, List.set_cons_succ]
        clear hS hS2 hown hrow9
        generalize World.setRow _ _ _ = wz at *
        refine done_T (by kernel_rfl) ?_
        simp only [List.drop_succ_cons, List.drop_zero]
        go_wp2_with fail
        rw [Exit.noGoto_ret]
        refine bodyPost_ret (v := .tuple #[.agg #[.int .u8 kd, v1, zS, zS], .bool false]) (results_row2 rfl _ _ w.heap.size 31 #[.int .u8 kd, v1, zS, zS] (0, 0) _ rfl HROW9.out Tryz.underlying31 rfl (by kernel_rfl) _ rfl) rfl ?_
        exact ⟨_, by rw [HR2.out], HOWN.out⟩
set_option maxRecDepth 100000 in
set_option maxHeartbeats 8000000 in
theorem takenK (s : ByteArray) (h4 : s.size ≤ maxLen) (hkd : (tkNum 1 (s.data.toList, false)).1 = 2) (w : World) : Calls Tryz.prog 121 #[.string s] w (TkPost s.data.toList w) := by
  obtain ⟨kd, ⟨l1, b1⟩, e1⟩ : ∃ V s2, tkNum 1 (s.data.toList, false) = (V, s2) := ⟨_, _, rfl⟩
  obtain ⟨c, ⟨l2, b2⟩, e2⟩ : ∃ V s2, tkNum 1 (l1, b1) = (V, s2) := ⟨_, _, rfl⟩
  have hkd8 := num_byte (s.data.toList, false)
  have hc8 := num_byte (l1, b1)
  have hl1 := num_less 1 (s.data.toList, false)
  have hl2 := num_less 1 (l1, b1)
  rw [e1] at hkd8 hl1
  rw [e2] at hc8 hl2
  dsimp only at hkd8 hl1 hc8 hl2
  have hm1 : (bs l1).size ≤ maxLen := bs_le (s := s) hl1 h4
  have hm2 : (bs l2).size ≤ maxLen := bs_le (s := bs l1) hl2 hm1
  have HC1 := Lib.hid (show ∀ w q, TkR w q s false → Calls Tryz.prog 150 #[.pointer (some ⟨q, 0, none⟩), .int .i64 1] w fun e w' => e = .returned (.int .u64 (kd : Nat)) ∧ TkR w' q (bs l1) b1 ∧ w.grownBy w' (some q) from fun w q h => by
    have c := number_tk h 1 (by omega) (by omega) h4
    rw [e1] at c
    exact c)
  have HC2 := Lib.hid (show ∀ w q, TkR w q (bs l1) b1 → Calls Tryz.prog 150 #[.pointer (some ⟨q, 0, none⟩), .int .i64 1] w fun e w' => e = .returned (.int .u64 (c : Nat)) ∧ TkR w' q (bs l2) b2 ∧ w.grownBy w' (some q) from fun w q h => by
    have c := number_tk h 1 (by omega) (by omega) hm1
    rw [bs_data, e2] at c
    exact c)
  rw [e1] at hkd
  dsimp only at hkd
  have HT := Lib.hid (show tkN s.data.toList = (⟨kd, [], (tkMany cK c (l2, b2)).1, []⟩, !(tkMany cK c (l2, b2)).2.2 && allz (tkMany cK c (l2, b2)).2.1) by
    unfold tkN
    rw [e1]
    dsimp only
    rw [e2]
    dsimp only
    rw [if_neg (by omega), if_pos hkd])
  have HM2 := Lib.hid hm2
  have HKD := Lib.hid hkd
  have eu : IntKind.u8.wrap (kd : Int) = (kd : Int) := IntWalk.u8_in _ (by omega)
  obtain ⟨R1, R2, S0, Z0⟩ := two_new w #[.int .u8 0, zS, zS, zS] #[.string s, .bool false] 31 203
  have HR1 := Lib.hid R1
  have HT2 := Lib.hid (show TkR _ (w.heap.size + 1) s false from R2)
  have HS0 := Lib.hid S0
  clear R1 R2 S0 Z0 hm1 hm2 hl1 hl2 hkd e1 e2 h4
  go_enter Tryz.func121, Tryz.ntmps121
  go_wp2_with fail
  go_step3
  go_wp2_with fail
  generalize (w.alloc _).alloc _ = W2 at *
  go_at_call 150
  refine (HC1.out _ _ HT2.out).mono ?_
  rintro e w3 ⟨rfl, ht, hg⟩
  have HT3 := Lib.hid ht
  have HR3 := Lib.hid ((hg.block w.heap.size (row_lt HR1.out) (fun e => by have := Option.some.inj e; omega)).trans HR1.out)
  have HB3 := Lib.hid (HS0.out.grown hg HS0.out.size (fun k hk => by cases hk; exact Nat.le_succ _))
  clear ht hg HT2 HR1 HS0
  go_wp2_with fail
  have hal : Below w3.heap.size w3 (w3.alloc (.cells #[.int .u8 kd, zS, zS, zS] 31)) := (Below.refl _ _).alloc (Nat.le_refl _) _
  have HN4 := Lib.hid (heap_alloc_new w3 (.cells #[.int .u8 kd, zS, zS, zS] 31))
  have HT4 := Lib.hid (HT3.out.below hal)
  have HR4 := Lib.hid ((hal.block w.heap.size (row_lt HR3.out)).trans HR3.out)
  have HB4 := Lib.hid (HB3.out.trans (hal.mono HB3.out.size))
  have HN1 := Lib.hid (show w.heap.size < w3.heap.size from row_lt HR3.out)
  have HQN := Lib.hid (show w.heap.size + 1 ≠ w3.heap.size from Nat.ne_of_lt HT3.out.lt)
  have HQ1 := Lib.hid (show w.heap.size < w.heap.size + 1 from Nat.lt_succ_self _)
  have HS4 := Lib.hid (show TkStK w (w.heap.size + 1) w3.heap.size kd zS [] l1 b1 (w3.alloc (.cells #[.int .u8 kd, zS, zS, zS] 31)) from ⟨HT4.out, HN4.out, HR4.out, Mk.nil HB4.out, HQ1.out, HN1.out, HQN.out⟩)
  clear hal HN4 HT3 HR3 HB3 HR4 HB4 HN1 HQN HQ1
  generalize w3.alloc _ = w4 at *
  generalize w3.heap.size = N at *
  go_at_call 150
  refine (HC2.out _ _ HT4.out).mono ?_
  rintro e w5 ⟨rfl, ht, hg⟩
  have HS5 := Lib.hid (HS4.out.took ht hg)
  clear ht hg HS4 HT4 HC1 HC2
  generalize hq : w.heap.size + 1 = q at *
  clear hq
  go_wp2_with fail
  go_step3
  go_wp2_with fail
  go_loopw [14] (fun iv wr => ∃ (i : Nat) (v1 : Value) (D : List Kd) (l : List UInt8) (b : Bool), i ≤ c ∧ iv = .int .u64 i ∧ Hid (TkStK w q N kd v1 D l b wr) ∧ Hid (TkInv cK c (l2, b2) i D l b)) (fun iv _ => c - (intOf iv).toNat)
  case atStart => exact ⟨0, zS, [], l2, b2, Nat.zero_le _, by go_num, HS5.out, TkInv.start⟩
  case round =>
    obtain ⟨i, v1, D, l, b, hi, rfl, hst, hinv⟩ := hrel
    have HLB := Lib.hid (show (bs l).size ≤ maxLen from bs_le (s := bs l2) (Hid.out hinv).2.2.1 HM2.out)
    by_cases hlt : i < c
    · have HIL := Lib.hid (show D.length ≤ 255 by have := (Hid.out hinv).2.1; omega)
      obtain ⟨x, ⟨l3, b3⟩, e3⟩ : ∃ x s2, cK.tk (l, b) = (x, s2) := ⟨_, _, rfl⟩
      have HL3 := Lib.hid (less_of K_less e3)
      have HCT := Lib.hid (fun w h => kid_tkL (w := w) (q := q) e3 HLB.out h)
      have HE3 := Lib.hid e3
      have HM3 := Lib.hid (show (bs l3).size ≤ maxLen from bs_le (s := bs l) HL3.out HLB.out)
      clear e3
      have k0 : wr.cell? ⟨N, 0, none⟩ = some (.int .u8 kd) := cell_of_row _ _ 0 _ _ _ (Hid.out hst).row
      have q1 : ((kd : Int) == 1) = false := by rw [beq_eq_false_iff_ne]; have := HKD.out; omega
      have q2 : ((kd : Int) == 2) = true := by rw [HKD.out]; rfl
      go_wp2_with fail
      refine wp_region_T (fun w' : World => w'.cell? ⟨N, 2, none⟩ = some v1) 5 (by kernel_rfl) (by kernel_rfl) ?_
      have hS : wr.drew.cell? ⟨N, 2, none⟩ = some v1 := cell_of_row _ _ 2 _ _ _ (Hid.out hst).row
      refine take_T 0 28 (.pointer (some ⟨N, 2, none⟩)) rfl (by rfl) (by kernel_rfl) (by decide) (by kernel_rfl) (by kernel_rfl) (by kernel_rfl) (fun _ _ _ h => h) (Or.inl ⟨by rfl, fun w' hSw => by go_simp⟩) hS ?_
      simp only [List.setIfInBounds_toArray, List.set_cons_zero, List.set_cons_succ]
      refine take_T 1 29 (v1) rfl (by rfl) (by kernel_rfl) (by decide) (by kernel_rfl) (by kernel_rfl) (by kernel_rfl) (fun _ _ _ h => h) (Or.inl ⟨by rfl, fun w' hSw => by go_simp⟩) hS ?_
      simp only [List.setIfInBounds_toArray, List.set_cons_zero, List.set_cons_succ]
      refine only_T 2 rfl (by kernel_rfl) (by decide) (by rfl) (fun K hK => ?_)
      go_wp2_with fail
      go_at_call 152
      refine (HCT.out _ (show TkR wr.drew q (bs l) b from (Hid.out hst).tk)).mono ?_
      rintro e w3 ⟨rfl, ht, hg⟩
      have HS3 := Lib.hid (((Hid.out hst).below (Below.refl _ _).drew).took ht hg)
      clear ht hg hst k0
      have hS2 : w3.cell? ⟨N, 2, none⟩ = some v1 := cell_of_row _ _ 2 _ _ _ HS3.out.row
      refine hK.out _ _ hS2 ?_
      clear hK K
      try simp only [Act.put, List.setIfInBounds_toArray, List.set_cons_zero, List.set_cons_succ]
      clear hS
      have hS := hS2
      clear hS2
      refine only_T 3 rfl (by kernel_rfl) (by decide) (by rfl) (fun K hK => ?_)
      refine op_oneK (.tmp 30) x rfl rfl ?_
      have hal : Below w3.heap.size w3 (w3.alloc (.cells (ecK x).toArray 45)) := (Below.refl _ _).alloc (Nat.le_refl _) _
      have HS4 := Lib.hid (HS3.out.below hal)
      have HX4 := Lib.hid (heap_alloc_new w3 (.cells (ecK x).toArray 45))
      clear hal HS3
      generalize w3.alloc _ = w4 at *
      generalize w3.heap.size = g4 at *
      have hS2 : w4.cell? ⟨N, 2, none⟩ = some v1 := cell_of_row _ _ 2 _ _ _ HS4.out.row
      refine hK.out _ _ hS2 ?_
      clear hK K
      try simp only [Act.put, List.setIfInBounds_toArray, List.set_cons_zero, List.set_cons_succ]
      clear hS
      have hS := hS2
      clear hS2
      refine only_T 4 rfl (by kernel_rfl) (by decide) (by rfl) (fun K hK => ?_)
      refine op_catK HS4.out.own x g4 1 HX4.out (by have := HIL.out; omega) (.tmp 29) (.tmp 31) rfl rfl rfl ?_
      intro v5 w5x hm5 hg5 hat5
      obtain ⟨A5, n5, c5, rfl⟩ : ∃ A n c, v5 = .slice A n c := by obtain ⟨A, c, h, _⟩ := hm5.ls ecK_len; exact ⟨A, _, c, h⟩
      have HS5x := Lib.hid (HS4.out.put hm5 hg5)
      have hq5 := HS4.out.own.off HS4.out.tk (by decide)
      have hN5 := HS4.out.own.off HS4.out.row (by decide)
      have tN := (hg5.block N (row_lt HS4.out.row) (fun e => hN5 e.symm)).trans HS4.out.row
      have hS2 : w5x.cell? ⟨N, 2, none⟩ = some v1 := cell_of_row _ _ 2 _ _ _ tN
      have f5 : w5x.frozen? ⟨N, 2, none⟩ = false := frozen_of_row _ _ _ _ _ tN
      clear hm5 hg5 hat5 hq5 hN5 tN HS4 HX4
      refine hK.out _ _ hS2 ?_
      clear hK K
      try simp only [Act.put, List.setIfInBounds_toArray, List.set_cons_zero, List.set_cons_succ]
      clear hS
      have hS := hS2
      clear hS2
      refine done_T (by kernel_rfl) ?_
      simp only [List.drop_succ_cons, List.drop_zero]
      have d1 : (w5x.setCell ⟨N, 2, none⟩ (.slice A5 n5 c5)).cell? ⟨q, 1, none⟩ = some (.bool b3) := HS5x.out.tk.c1
      cases b3
      · have HI2 := Lib.hid ((Hid.out hinv).step hlt HE3.out HL3.out)
        clear hinv HE3 HCT HL3
        go_wp2_with fail
        exact ⟨⟨i + 1, _, D ++ [x], l3, false, by omega, by go_num, HS5x.out, HI2.out⟩, by simp [intOf] <;> omega⟩
      · have HDN0 := Lib.hid ((Hid.out hinv).stop hlt HE3.out)
        clear hinv HE3 HCT HL3
        go_wp2_with fail
        clear d1 f5 hS
        generalize World.setCell _ _ _ = wE at *
        obtain ⟨DE, hDE⟩ : ∃ DE, D ++ [x] = DE := ⟨_, rfl⟩
        rw [hDE] at HDN0 HS5x
        clear hDE
        have HDN := HDN0
        have HONE := Lib.hid (show (#[.int .u8 kd, zS, (.slice A5 n5 c5), zS] : Array Value).all (·.oneCell') = true from four_cells _ _ _ _ rfl rfl rfl rfl)
        have HR2 := Lib.hid (show (tkN s.data.toList).2 = false by rw [HT.out, HDN.out]; rfl)
        have HND := Lib.hid (show (tkN s.data.toList).1 = ⟨kd, [], DE, []⟩ by rw [HT.out, HDN.out])
        have HSF := Lib.hid (HS5x.out)
        have HKP := Lib.hid (show ∀ w' : World, TkStK w q N kd ((.slice A5 n5 c5)) DE l3 true w' → w'.cell? ⟨N, 0, none⟩ = some (.int .u8 kd) ∧ w'.cell? ⟨N, 1, none⟩ = some (zS) ∧ w'.cell? ⟨N, 2, none⟩ = some ((.slice A5 n5 c5)) ∧ w'.cell? ⟨N, 3, none⟩ = some (zS) ∧ w'.cell? ⟨q, 0, none⟩ = some (.string (bs l3)) ∧ w'.cell? ⟨q, 1, none⟩ = some (.bool true) from fun w' h => ⟨cell_of_row _ _ 0 _ _ _ h.row, cell_of_row _ _ 1 _ _ _ h.row, cell_of_row _ _ 2 _ _ _ h.row, cell_of_row _ _ 3 _ _ _ h.row, h.tk.c0, h.tk.c1⟩)
        refine wp_region_T (fun w' : World => w'.cell? ⟨N, 0, none⟩ = some (.int .u8 kd) ∧ w'.cell? ⟨N, 1, none⟩ = some (zS) ∧ w'.cell? ⟨N, 2, none⟩ = some ((.slice A5 n5 c5)) ∧ w'.cell? ⟨N, 3, none⟩ = some (zS) ∧ w'.cell? ⟨q, 0, none⟩ = some (.string (bs l3)) ∧ w'.cell? ⟨q, 1, none⟩ = some (.bool true)) 11 (by kernel_rfl) (by kernel_rfl) ?_
        have hS := HKP.out wE.drew (HSF.out.below (Below.refl _ _).drew)
        refine take_T 0 45 (.agg #[.int .u8 kd, zS, (.slice A5 n5 c5), zS]) rfl (by rfl) (by kernel_rfl) (by decide) (by kernel_rfl) (by kernel_rfl) (by kernel_rfl) (fun _ _ _ h => h) (Or.inl ⟨by rfl, fun w' hSw => by obtain ⟨s0, s1, s2, s3, s4, s5⟩ := hSw; go_simp⟩) hS ?_
        simp only [List.setIfInBounds_toArray, List.set_cons_zero, List.set_cons_succ]
        refine take_T 1 46 (.pointer (some ⟨q, 1, none⟩)) rfl (by rfl) (by kernel_rfl) (by decide) (by kernel_rfl) (by kernel_rfl) (by kernel_rfl) (fun _ _ _ h => h) (Or.inl ⟨by rfl, fun w' hSw => by obtain ⟨s0, s1, s2, s3, s4, s5⟩ := hSw; go_simp⟩) hS ?_
        simp only [List.setIfInBounds_toArray, List.set_cons_zero, List.set_cons_succ]
        refine take_T 2 47 (.bool true) rfl (by rfl) (by kernel_rfl) (by decide) (by kernel_rfl) (by kernel_rfl) (by kernel_rfl) (fun _ _ _ h => h) (Or.inl ⟨by rfl, fun w' hSw => by obtain ⟨s0, s1, s2, s3, s4, s5⟩ := hSw; go_simp⟩) hS ?_
        simp only [List.setIfInBounds_toArray, List.set_cons_zero, List.set_cons_succ]
        refine take_T 3 48 (.bool false) rfl (by rfl) (by kernel_rfl) (by decide) (by kernel_rfl) (by kernel_rfl) (by kernel_rfl) (fun _ _ _ h => h) (Or.inl ⟨by rfl, fun w' hSw => by obtain ⟨s0, s1, s2, s3, s4, s5⟩ := hSw; go_simp⟩) hS ?_
        simp only [List.setIfInBounds_toArray, List.set_cons_zero, List.set_cons_succ]
        refine take_T 4 49 (.bool false) rfl (by rfl) (by kernel_rfl) (by decide) (by kernel_rfl) (by kernel_rfl) (by kernel_rfl) (fun _ _ _ h => h) (Or.inl ⟨by rfl, fun w' hSw => by obtain ⟨s0, s1, s2, s3, s4, s5⟩ := hSw; go_simp⟩) hS ?_
        simp only [List.setIfInBounds_toArray, List.set_cons_zero, List.set_cons_succ]
        refine take_T 5 50 undef rfl (by rfl) (by kernel_rfl) (by decide) (by kernel_rfl) (by kernel_rfl) (by kernel_rfl) (fun _ _ _ h => h) (Or.inr ⟨by rfl, rfl⟩) hS ?_
        simp only [List.setIfInBounds_toArray, List.set_cons_zero, List.set_cons_succ]
        refine take_T 6 51 undef rfl (by rfl) (by kernel_rfl) (by decide) (by kernel_rfl) (by kernel_rfl) (by kernel_rfl) (fun _ _ _ h => h) (Or.inr ⟨by rfl, rfl⟩) hS ?_
        simp only [List.setIfInBounds_toArray, List.set_cons_zero, List.set_cons_succ]
        refine take_T 7 52 undef rfl (by rfl) (by kernel_rfl) (by decide) (by kernel_rfl) (by kernel_rfl) (by kernel_rfl) (fun _ _ _ h => h) (Or.inr ⟨by rfl, rfl⟩) hS ?_
        simp only [List.setIfInBounds_toArray, List.set_cons_zero, List.set_cons_succ]
        refine take_T 8 53 undef rfl (by rfl) (by kernel_rfl) (by decide) (by kernel_rfl) (by kernel_rfl) (by kernel_rfl) (fun _ _ _ h => h) (Or.inr ⟨by rfl, rfl⟩) hS ?_
        simp only [List.setIfInBounds_toArray, List.set_cons_zero, List.set_cons_succ]
        refine take_T 9 54 (.bool false) rfl (by rfl) (by kernel_rfl) (by decide) (by kernel_rfl) (by kernel_rfl) (by kernel_rfl) (fun _ _ _ h => h) (Or.inl ⟨by rfl, fun w' hSw => by obtain ⟨s0, s1, s2, s3, s4, s5⟩ := hSw; go_simp⟩) hS ?_
        simp only [List.setIfInBounds_toArray, List.set_cons_zero, List.set_cons_succ]
        have HS9 := Lib.hid (show TkStK w q N kd ((.slice A5 n5 c5)) DE l3 true wE.drew from HSF.out.below (Below.refl _ _).drew)
        refine only_T 10 rfl (by kernel_rfl) (by decide) (by rfl) (fun K hK => ?_)
        refine wp_store_row 31 (.tmp 2) (.tmp 45) rfl w.heap.size #[.int .u8 kd, zS, (.slice A5 n5 c5), zS] rfl rfl 31 #[.int .u8 0, zS, zS, zS] HS9.out.res (by kernel_rfl) rfl HONE.out ?_
        obtain ⟨hown, hrow9⟩ := HS9.out.out HND.out
        have HOWN := Lib.hid hown
        have HROW9 := Lib.hid hrow9
        have hS2 : (wE.drew.setRow w.heap.size #[.int .u8 kd, zS, (.slice A5 n5 c5), zS]).cell? ⟨N, 0, none⟩ = some (.int .u8 kd) ∧ (wE.drew.setRow w.heap.size #[.int .u8 kd, zS, (.slice A5 n5 c5), zS]).cell? ⟨N, 1, none⟩ = some (zS) ∧ (wE.drew.setRow w.heap.size #[.int .u8 kd, zS, (.slice A5 n5 c5), zS]).cell? ⟨N, 2, none⟩ = some ((.slice A5 n5 c5)) ∧ (wE.drew.setRow w.heap.size #[.int .u8 kd, zS, (.slice A5 n5 c5), zS]).cell? ⟨N, 3, none⟩ = some (zS) ∧ (wE.drew.setRow w.heap.size #[.int .u8 kd, zS, (.slice A5 n5 c5), zS]).cell? ⟨q, 0, none⟩ = some (.string (bs l3)) ∧ (wE.drew.setRow w.heap.size #[.int .u8 kd, zS, (.slice A5 n5 c5), zS]).cell? ⟨q, 1, none⟩ = some (.bool true) := by
          have hs := grown_setRow wE.drew w.heap.size #[.int .u8 kd, zS, (.slice A5 n5 c5), zS]
          have rN := (hs.block N (row_lt HS9.out.row) (fun e => Nat.ne_of_lt HS9.out.n1 (Option.some.inj e).symm)).trans HS9.out.row
          have rq := (hs.block q HS9.out.tk.lt (fun e => Nat.ne_of_lt HS9.out.q1 (Option.some.inj e).symm)).trans HS9.out.tk
          exact ⟨cell_of_row _ _ 0 _ _ _ rN, cell_of_row _ _ 1 _ _ _ rN, cell_of_row _ _ 2 _ _ _ rN, cell_of_row _ _ 3 _ _ _ rN, cell_of_row _ _ 0 _ _ _ rq, cell_of_row _ _ 1 _ _ _ rq⟩
        refine hK.out _ _ hS2 ?_
        clear hK K
        try simp only [Act.put, List.setIfInBounds_toArray, List.set_cons_zero, List.set_cons_succ]
        clear hS hS2 hown hrow9
        generalize World.setRow _ _ _ = wz at *
        refine done_T (by kernel_rfl) ?_
        simp only [List.drop_succ_cons, List.drop_zero]
        go_wp2_with fail
        rw [Exit.noGoto_ret]
        refine bodyPost_ret (v := .tuple #[.agg #[.int .u8 kd, zS, (.slice A5 n5 c5), zS], .bool false]) (results_row2 rfl _ _ w.heap.size 31 #[.int .u8 kd, zS, (.slice A5 n5 c5), zS] (0, 0) _ rfl HROW9.out Tryz.underlying31 rfl (by kernel_rfl) _ rfl) rfl ?_
        exact ⟨_, by rw [HR2.out], HOWN.out⟩
    · have HDN := Lib.hid ((Hid.out hinv).done hlt)
      clear hinv
      have HSX := Lib.hid (Hid.out hst)
      clear hst
      have HONE := Lib.hid (show (#[.int .u8 kd, zS, v1, zS] : Array Value).all (·.oneCell') = true by rcases HSX.out.own.1.2 with ⟨h, _⟩ | ⟨g, cap, cur, h, _⟩ <;> (subst h; exact four_cells _ _ _ _ rfl rfl rfl rfl))
      have HLE := HLB
      cases b
      · go_wp2_with fail
        clear hlt hi
        have HTR := Lib.hid (show ∀ w', Calls Tryz.prog 154 #[.string (bs l), .string ⟨#[0]⟩] w' fun e w2 => e = .returned (.string (bs (Lib.trimB l 0))) ∧ (w2 = w' ∨ w2 = w'.drew) from fun w' => Tryz.strings_Trim_one (bs l) 0 (by decide) w' (by have := HLE.out; unfold maxLen at this; omega))
        have HND := Lib.hid (show (tkN s.data.toList).1 = ⟨kd, [], D, []⟩ by rw [HT.out, HDN.out])
        by_cases hz : allz l = true
        · have HR2 := Lib.hid (show (tkN s.data.toList).2 = true by rw [HT.out, HDN.out]; show (!false && allz l) = true; rw [hz]; rfl)
          have hz1 : (bs (Lib.trimB l 0)).toList = [] := str_nil (by rw [bs_size, (trimB_nil l).2 hz]; rfl)
          have hz2 : (bs (Lib.trimB l 0)).toList.isEmpty = true := by rw [hz1]; rfl
          clear hz
          have HSF := Lib.hid (HSX.out)
          have HKP := Lib.hid (show ∀ w' : World, TkStK w q N kd (v1) D l false w' → w'.cell? ⟨N, 0, none⟩ = some (.int .u8 kd) ∧ w'.cell? ⟨N, 1, none⟩ = some (zS) ∧ w'.cell? ⟨N, 2, none⟩ = some (v1) ∧ w'.cell? ⟨N, 3, none⟩ = some (zS) ∧ w'.cell? ⟨q, 0, none⟩ = some (.string (bs l)) ∧ w'.cell? ⟨q, 1, none⟩ = some (.bool false) from fun w' h => ⟨cell_of_row _ _ 0 _ _ _ h.row, cell_of_row _ _ 1 _ _ _ h.row, cell_of_row _ _ 2 _ _ _ h.row, cell_of_row _ _ 3 _ _ _ h.row, h.tk.c0, h.tk.c1⟩)
          refine wp_region_T (fun w' : World => w'.cell? ⟨N, 0, none⟩ = some (.int .u8 kd) ∧ w'.cell? ⟨N, 1, none⟩ = some (zS) ∧ w'.cell? ⟨N, 2, none⟩ = some (v1) ∧ w'.cell? ⟨N, 3, none⟩ = some (zS) ∧ w'.cell? ⟨q, 0, none⟩ = some (.string (bs l)) ∧ w'.cell? ⟨q, 1, none⟩ = some (.bool false)) 11 (by kernel_rfl) (by kernel_rfl) ?_
          have hS := HKP.out wr.drew (HSF.out.below (Below.refl _ _).drew)
          refine take_T 0 45 (.agg #[.int .u8 kd, zS, v1, zS]) rfl (by rfl) (by kernel_rfl) (by decide) (by kernel_rfl) (by kernel_rfl) (by kernel_rfl) (fun _ _ _ h => h) (Or.inl ⟨by rfl, fun w' hSw => by obtain ⟨s0, s1, s2, s3, s4, s5⟩ := hSw; go_simp⟩) hS ?_
          simp only [List.setIfInBounds_toArray, List.set_cons_zero, List.set_cons_succ]
          refine take_T 1 46 (.pointer (some ⟨q, 1, none⟩)) rfl (by rfl) (by kernel_rfl) (by decide) (by kernel_rfl) (by kernel_rfl) (by kernel_rfl) (fun _ _ _ h => h) (Or.inl ⟨by rfl, fun w' hSw => by obtain ⟨s0, s1, s2, s3, s4, s5⟩ := hSw; go_simp⟩) hS ?_
          simp only [List.setIfInBounds_toArray, List.set_cons_zero, List.set_cons_succ]
          refine take_T 2 47 (.bool false) rfl (by rfl) (by kernel_rfl) (by decide) (by kernel_rfl) (by kernel_rfl) (by kernel_rfl) (fun _ _ _ h => h) (Or.inl ⟨by rfl, fun w' hSw => by obtain ⟨s0, s1, s2, s3, s4, s5⟩ := hSw; go_simp⟩) hS ?_
          simp only [List.setIfInBounds_toArray, List.set_cons_zero, List.set_cons_succ]
          refine take_T 3 48 (.bool true) rfl (by rfl) (by kernel_rfl) (by decide) (by kernel_rfl) (by kernel_rfl) (by kernel_rfl) (fun _ _ _ h => h) (Or.inl ⟨by rfl, fun w' hSw => by obtain ⟨s0, s1, s2, s3, s4, s5⟩ := hSw; go_simp⟩) hS ?_
          simp only [List.setIfInBounds_toArray, List.set_cons_zero, List.set_cons_succ]
          refine take_T 4 49 (.bool true) rfl (by rfl) (by kernel_rfl) (by decide) (by kernel_rfl) (by kernel_rfl) (by kernel_rfl) (fun _ _ _ h => h) (Or.inl ⟨by rfl, fun w' hSw => by obtain ⟨s0, s1, s2, s3, s4, s5⟩ := hSw; go_simp⟩) hS ?_
          simp only [List.setIfInBounds_toArray, List.set_cons_zero, List.set_cons_succ]
          refine take_T 5 50 (.pointer (some ⟨q, 0, none⟩)) rfl (by rfl) (by kernel_rfl) (by decide) (by kernel_rfl) (by kernel_rfl) (by kernel_rfl) (fun _ _ _ h => h) (Or.inl ⟨by rfl, fun w' hSw => by obtain ⟨s0, s1, s2, s3, s4, s5⟩ := hSw; go_simp⟩) hS ?_
          simp only [List.setIfInBounds_toArray, List.set_cons_zero, List.set_cons_succ]
          refine take_T 6 51 (.string (bs l)) rfl (by rfl) (by kernel_rfl) (by decide) (by kernel_rfl) (by kernel_rfl) (by kernel_rfl) (fun _ _ _ h => h) (Or.inl ⟨by rfl, fun w' hSw => by obtain ⟨s0, s1, s2, s3, s4, s5⟩ := hSw; go_simp⟩) hS ?_
          simp only [List.setIfInBounds_toArray, List.set_cons_zero, List.set_cons_succ]
          refine only_T 7 rfl (by kernel_rfl) (by decide) (by rfl) (fun K hK => ?_)
          go_wp2_with fail
          go_at_call 154
          refine (HTR.out _).mono ?_
          rintro e w9 ⟨rfl, hw9⟩
          have HS9 := Lib.hid (show TkStK w q N kd (v1) D l false w9 from by
            rcases hw9 with rfl | rfl
            · exact HSF.out.below (Below.refl _ _).drew
            · exact (HSF.out.below (Below.refl _ _).drew).below (Below.refl _ _).drew)
          clear hw9
          have hS2 := HKP.out _ HS9.out
          refine hK.out _ _ hS2 ?_
          clear hK K
          try simp only [Act.put, List.setIfInBounds_toArray, List.set_cons_zero, List.set_cons_succ]
          clear hS
          have hS := hS2
          clear hS2
          refine take_T 8 53 (.bool true) rfl (by rfl) (by kernel_rfl) (by decide) (by kernel_rfl) (by kernel_rfl) (by kernel_rfl) (fun _ _ _ h => h) (Or.inl ⟨by rfl, fun w' hSw => by obtain ⟨s0, s1, s2, s3, s4, s5⟩ := hSw; go_simp⟩) hS ?_
          simp only [List.setIfInBounds_toArray, List.set_cons_zero, List.set_cons_succ]
          refine take_T 9 54 (.bool true) rfl (by rfl) (by kernel_rfl) (by decide) (by kernel_rfl) (by kernel_rfl) (by kernel_rfl) (fun _ _ _ h => h) (Or.inl ⟨by rfl, fun w' hSw => by obtain ⟨s0, s1, s2, s3, s4, s5⟩ := hSw; go_simp⟩) hS ?_
          simp only [List.setIfInBounds_toArray, List.set_cons_zero, List.set_cons_succ]
          refine only_T 10 rfl (by kernel_rfl) (by decide) (by rfl) (fun K hK => ?_)
          refine wp_store_row 31 (.tmp 2) (.tmp 45) rfl w.heap.size #[.int .u8 kd, zS, v1, zS] rfl rfl 31 #[.int .u8 0, zS, zS, zS] HS9.out.res (by kernel_rfl) rfl HONE.out ?_
          obtain ⟨hown, hrow9⟩ := HS9.out.out HND.out
          have HOWN := Lib.hid hown
          have HROW9 := Lib.hid hrow9
          have hS2 : (w9.setRow w.heap.size #[.int .u8 kd, zS, v1, zS]).cell? ⟨N, 0, none⟩ = some (.int .u8 kd) ∧ (w9.setRow w.heap.size #[.int .u8 kd, zS, v1, zS]).cell? ⟨N, 1, none⟩ = some (zS) ∧ (w9.setRow w.heap.size #[.int .u8 kd, zS, v1, zS]).cell? ⟨N, 2, none⟩ = some (v1) ∧ (w9.setRow w.heap.size #[.int .u8 kd, zS, v1, zS]).cell? ⟨N, 3, none⟩ = some (zS) ∧ (w9.setRow w.heap.size #[.int .u8 kd, zS, v1, zS]).cell? ⟨q, 0, none⟩ = some (.string (bs l)) ∧ (w9.setRow w.heap.size #[.int .u8 kd, zS, v1, zS]).cell? ⟨q, 1, none⟩ = some (.bool false) := by
            have hs := grown_setRow w9 w.heap.size #[.int .u8 kd, zS, v1, zS]
            have rN := (hs.block N (row_lt HS9.out.row) (fun e => Nat.ne_of_lt HS9.out.n1 (Option.some.inj e).symm)).trans HS9.out.row
            have rq := (hs.block q HS9.out.tk.lt (fun e => Nat.ne_of_lt HS9.out.q1 (Option.some.inj e).symm)).trans HS9.out.tk
            exact ⟨cell_of_row _ _ 0 _ _ _ rN, cell_of_row _ _ 1 _ _ _ rN, cell_of_row _ _ 2 _ _ _ rN, cell_of_row _ _ 3 _ _ _ rN, cell_of_row _ _ 0 _ _ _ rq, cell_of_row _ _ 1 _ _ _ rq⟩
          refine hK.out _ _ hS2 ?_
          clear hK K
          try simp only [Act.put, List.setIfInBounds_toArray, List.set_cons_zero, List.set_cons_succ]
          clear hS hS2 hown hrow9
          generalize World.setRow _ _ _ = wz at *
          refine done_T (by kernel_rfl) ?_
          simp only [List.drop_succ_cons, List.drop_zero]
          go_wp2_with fail
          rw [Exit.noGoto_ret]
          refine bodyPost_ret (v := .tuple #[.agg #[.int .u8 kd, zS, v1, zS], .bool true]) (results_row2 rfl _ _ w.heap.size 31 #[.int .u8 kd, zS, v1, zS] (0, 0) _ rfl HROW9.out Tryz.underlying31 rfl (by kernel_rfl) _ rfl) rfl ?_
          exact ⟨_, by rw [HR2.out], HOWN.out⟩
        · have hz0 : (bs (Lib.trimB l 0)).size ≠ 0 := by
            rw [bs_size]; intro h; exact hz ((trimB_nil l).1 (List.eq_nil_of_length_eq_zero h))
          have HR2 := Lib.hid (show (tkN s.data.toList).2 = false by rw [HT.out, HDN.out]; show (!false && allz l) = false; rw [Bool.eq_false_iff.2 hz]; rfl)
          have hz1 := str_empty hz0
          have hz2 := str_nonil hz0
          clear hz hz0
          have HSF := Lib.hid (HSX.out)
          have HKP := Lib.hid (show ∀ w' : World, TkStK w q N kd (v1) D l false w' → w'.cell? ⟨N, 0, none⟩ = some (.int .u8 kd) ∧ w'.cell? ⟨N, 1, none⟩ = some (zS) ∧ w'.cell? ⟨N, 2, none⟩ = some (v1) ∧ w'.cell? ⟨N, 3, none⟩ = some (zS) ∧ w'.cell? ⟨q, 0, none⟩ = some (.string (bs l)) ∧ w'.cell? ⟨q, 1, none⟩ = some (.bool false) from fun w' h => ⟨cell_of_row _ _ 0 _ _ _ h.row, cell_of_row _ _ 1 _ _ _ h.row, cell_of_row _ _ 2 _ _ _ h.row, cell_of_row _ _ 3 _ _ _ h.row, h.tk.c0, h.tk.c1⟩)
          refine wp_region_T (fun w' : World => w'.cell? ⟨N, 0, none⟩ = some (.int .u8 kd) ∧ w'.cell? ⟨N, 1, none⟩ = some (zS) ∧ w'.cell? ⟨N, 2, none⟩ = some (v1) ∧ w'.cell? ⟨N, 3, none⟩ = some (zS) ∧ w'.cell? ⟨q, 0, none⟩ = some (.string (bs l)) ∧ w'.cell? ⟨q, 1, none⟩ = some (.bool false)) 11 (by kernel_rfl) (by kernel_rfl) ?_
          have hS := HKP.out wr.drew (HSF.out.below (Below.refl _ _).drew)
          refine take_T 0 45 (.agg #[.int .u8 kd, zS, v1, zS]) rfl (by rfl) (by kernel_rfl) (by decide) (by kernel_rfl) (by kernel_rfl) (by kernel_rfl) (fun _ _ _ h => h) (Or.inl ⟨by rfl, fun w' hSw => by obtain ⟨s0, s1, s2, s3, s4, s5⟩ := hSw; go_simp⟩) hS ?_
          simp only [List.setIfInBounds_toArray, List.set_cons_zero, List.set_cons_succ]
          refine take_T 1 46 (.pointer (some ⟨q, 1, none⟩)) rfl (by rfl) (by kernel_rfl) (by decide) (by kernel_rfl) (by kernel_rfl) (by kernel_rfl) (fun _ _ _ h => h) (Or.inl ⟨by rfl, fun w' hSw => by obtain ⟨s0, s1, s2, s3, s4, s5⟩ := hSw; go_simp⟩) hS ?_
          simp only [List.setIfInBounds_toArray, List.set_cons_zero, List.set_cons_succ]
          refine take_T 2 47 (.bool false) rfl (by rfl) (by kernel_rfl) (by decide) (by kernel_rfl) (by kernel_rfl) (by kernel_rfl) (fun _ _ _ h => h) (Or.inl ⟨by rfl, fun w' hSw => by obtain ⟨s0, s1, s2, s3, s4, s5⟩ := hSw; go_simp⟩) hS ?_
          simp only [List.setIfInBounds_toArray, List.set_cons_zero, List.set_cons_succ]
          refine take_T 3 48 (.bool true) rfl (by rfl) (by kernel_rfl) (by decide) (by kernel_rfl) (by kernel_rfl) (by kernel_rfl) (fun _ _ _ h => h) (Or.inl ⟨by rfl, fun w' hSw => by obtain ⟨s0, s1, s2, s3, s4, s5⟩ := hSw; go_simp⟩) hS ?_
          simp only [List.setIfInBounds_toArray, List.set_cons_zero, List.set_cons_succ]
          refine take_T 4 49 (.bool true) rfl (by rfl) (by kernel_rfl) (by decide) (by kernel_rfl) (by kernel_rfl) (by kernel_rfl) (fun _ _ _ h => h) (Or.inl ⟨by rfl, fun w' hSw => by obtain ⟨s0, s1, s2, s3, s4, s5⟩ := hSw; go_simp⟩) hS ?_
          simp only [List.setIfInBounds_toArray, List.set_cons_zero, List.set_cons_succ]
          refine take_T 5 50 (.pointer (some ⟨q, 0, none⟩)) rfl (by rfl) (by kernel_rfl) (by decide) (by kernel_rfl) (by kernel_rfl) (by kernel_rfl) (fun _ _ _ h => h) (Or.inl ⟨by rfl, fun w' hSw => by obtain ⟨s0, s1, s2, s3, s4, s5⟩ := hSw; go_simp⟩) hS ?_
          simp only [List.setIfInBounds_toArray, List.set_cons_zero, List.set_cons_succ]
          refine take_T 6 51 (.string (bs l)) rfl (by rfl) (by kernel_rfl) (by decide) (by kernel_rfl) (by kernel_rfl) (by kernel_rfl) (fun _ _ _ h => h) (Or.inl ⟨by rfl, fun w' hSw => by obtain ⟨s0, s1, s2, s3, s4, s5⟩ := hSw; go_simp⟩) hS ?_
          simp only [List.setIfInBounds_toArray, List.set_cons_zero, List.set_cons_succ]
          refine only_T 7 rfl (by kernel_rfl) (by decide) (by rfl) (fun K hK => ?_)
          go_wp2_with fail
          go_at_call 154
          refine (HTR.out _).mono ?_
          rintro e w9 ⟨rfl, hw9⟩
          have HS9 := Lib.hid (show TkStK w q N kd (v1) D l false w9 from by
            rcases hw9 with rfl | rfl
            · exact HSF.out.below (Below.refl _ _).drew
            · exact (HSF.out.below (Below.refl _ _).drew).below (Below.refl _ _).drew)
          clear hw9
          have hS2 := HKP.out _ HS9.out
          refine hK.out _ _ hS2 ?_
          clear hK K
          try simp only [Act.put, List.setIfInBounds_toArray, List.set_cons_zero, List.set_cons_succ]
          clear hS
          have hS := hS2
          clear hS2
          refine take_T 8 53 (.bool false) rfl (by rfl) (by kernel_rfl) (by decide) (by kernel_rfl) (by kernel_rfl) (by kernel_rfl) (fun _ _ _ h => h) (Or.inl ⟨by rfl, fun w' hSw => by obtain ⟨s0, s1, s2, s3, s4, s5⟩ := hSw; go_simp⟩) hS ?_
          simp only [List.setIfInBounds_toArray, List.set_cons_zero, List.set_cons_succ]
          refine take_T 9 54 (.bool false) rfl (by rfl) (by kernel_rfl) (by decide) (by kernel_rfl) (by kernel_rfl) (by kernel_rfl) (fun _ _ _ h => h) (Or.inl ⟨by rfl, fun w' hSw => by obtain ⟨s0, s1, s2, s3, s4, s5⟩ := hSw; go_simp⟩) hS ?_
          simp only [List.setIfInBounds_toArray, List.set_cons_zero, List.set_cons_succ]
          refine only_T 10 rfl (by kernel_rfl) (by decide) (by rfl) (fun K hK => ?_)
          refine wp_store_row 31 (.tmp 2) (.tmp 45) rfl w.heap.size #[.int .u8 kd, zS, v1, zS] rfl rfl 31 #[.int .u8 0, zS, zS, zS] HS9.out.res (by kernel_rfl) rfl HONE.out ?_
          obtain ⟨hown, hrow9⟩ := HS9.out.out HND.out
          have HOWN := Lib.hid hown
          have HROW9 := Lib.hid hrow9
          have hS2 : (w9.setRow w.heap.size #[.int .u8 kd, zS, v1, zS]).cell? ⟨N, 0, none⟩ = some (.int .u8 kd) ∧ (w9.setRow w.heap.size #[.int .u8 kd, zS, v1, zS]).cell? ⟨N, 1, none⟩ = some (zS) ∧ (w9.setRow w.heap.size #[.int .u8 kd, zS, v1, zS]).cell? ⟨N, 2, none⟩ = some (v1) ∧ (w9.setRow w.heap.size #[.int .u8 kd, zS, v1, zS]).cell? ⟨N, 3, none⟩ = some (zS) ∧ (w9.setRow w.heap.size #[.int .u8 kd, zS, v1, zS]).cell? ⟨q, 0, none⟩ = some (.string (bs l)) ∧ (w9.setRow w.heap.size #[.int .u8 kd, zS, v1, zS]).cell? ⟨q, 1, none⟩ = some (.bool false) := by
            have hs := grown_setRow w9 w.heap.size #[.int .u8 kd, zS, v1, zS]
            have rN := (hs.block N (row_lt HS9.out.row) (fun e => Nat.ne_of_lt HS9.out.n1 (Option.some.inj e).symm)).trans HS9.out.row
            have rq := (hs.block q HS9.out.tk.lt (fun e => Nat.ne_of_lt HS9.out.q1 (Option.some.inj e).symm)).trans HS9.out.tk
            exact ⟨cell_of_row _ _ 0 _ _ _ rN, cell_of_row _ _ 1 _ _ _ rN, cell_of_row _ _ 2 _ _ _ rN, cell_of_row _ _ 3 _ _ _ rN, cell_of_row _ _ 0 _ _ _ rq, cell_of_row _ _ 1 _ _ _ rq⟩
          refine hK.out _ _ hS2 ?_
          clear hK K
          try simp only [Act.put, List.setIfInBounds_toArray, List.set_cons_zero, List.set_cons_succ]
          clear hS hS2 hown hrow9
          generalize World.setRow _ _ _ = wz at *
          refine done_T (by kernel_rfl) ?_
          simp only [List.drop_succ_cons, List.drop_zero]
          go_wp2_with fail
          rw [Exit.noGoto_ret]
          refine bodyPost_ret (v := .tuple #[.agg #[.int .u8 kd, zS, v1, zS], .bool false]) (results_row2 rfl _ _ w.heap.size 31 #[.int .u8 kd, zS, v1, zS] (0, 0) _ rfl HROW9.out Tryz.underlying31 rfl (by kernel_rfl) _ rfl) rfl ?_
          exact ⟨_, by rw [HR2.out], HOWN.out⟩
      · go_wp2_with fail
        clear hlt hi
        have HR2 := Lib.hid (show (tkN s.data.toList).2 = false by rw [HT.out, HDN.out]; rfl)
        have HND := Lib.hid (show (tkN s.data.toList).1 = ⟨kd, [], D, []⟩ by rw [HT.out, HDN.out])
        have HSF := Lib.hid (HSX.out)
        have HKP := Lib.hid (show ∀ w' : World, TkStK w q N kd (v1) D l true w' → w'.cell? ⟨N, 0, none⟩ = some (.int .u8 kd) ∧ w'.cell? ⟨N, 1, none⟩ = some (zS) ∧ w'.cell? ⟨N, 2, none⟩ = some (v1) ∧ w'.cell? ⟨N, 3, none⟩ = some (zS) ∧ w'.cell? ⟨q, 0, none⟩ = some (.string (bs l)) ∧ w'.cell? ⟨q, 1, none⟩ = some (.bool true) from fun w' h => ⟨cell_of_row _ _ 0 _ _ _ h.row, cell_of_row _ _ 1 _ _ _ h.row, cell_of_row _ _ 2 _ _ _ h.row, cell_of_row _ _ 3 _ _ _ h.row, h.tk.c0, h.tk.c1⟩)
        refine wp_region_T (fun w' : World => w'.cell? ⟨N, 0, none⟩ = some (.int .u8 kd) ∧ w'.cell? ⟨N, 1, none⟩ = some (zS) ∧ w'.cell? ⟨N, 2, none⟩ = some (v1) ∧ w'.cell? ⟨N, 3, none⟩ = some (zS) ∧ w'.cell? ⟨q, 0, none⟩ = some (.string (bs l)) ∧ w'.cell? ⟨q, 1, none⟩ = some (.bool true)) 11 (by kernel_rfl) (by kernel_rfl) ?_
        have hS := HKP.out wr.drew (HSF.out.below (Below.refl _ _).drew)
        refine take_T 0 45 (.agg #[.int .u8 kd, zS, v1, zS]) rfl (by rfl) (by kernel_rfl) (by decide) (by kernel_rfl) (by kernel_rfl) (by kernel_rfl) (fun _ _ _ h => h) (Or.inl ⟨by rfl, fun w' hSw => by obtain ⟨s0, s1, s2, s3, s4, s5⟩ := hSw; go_simp⟩) hS ?_
        simp only [List.setIfInBounds_toArray, List.set_cons_zero, List.set_cons_succ]
        refine take_T 1 46 (.pointer (some ⟨q, 1, none⟩)) rfl (by rfl) (by kernel_rfl) (by decide) (by kernel_rfl) (by kernel_rfl) (by kernel_rfl) (fun _ _ _ h => h) (Or.inl ⟨by rfl, fun w' hSw => by obtain ⟨s0, s1, s2, s3, s4, s5⟩ := hSw; go_simp⟩) hS ?_
        simp only [List.setIfInBounds_toArray, List.set_cons_zero, List.set_cons_succ]
        refine take_T 2 47 (.bool true) rfl (by rfl) (by kernel_rfl) (by decide) (by kernel_rfl) (by kernel_rfl) (by kernel_rfl) (fun _ _ _ h => h) (Or.inl ⟨by rfl, fun w' hSw => by obtain ⟨s0, s1, s2, s3, s4, s5⟩ := hSw; go_simp⟩) hS ?_
        simp only [List.setIfInBounds_toArray, List.set_cons_zero, List.set_cons_succ]
        refine take_T 3 48 (.bool false) rfl (by rfl) (by kernel_rfl) (by decide) (by kernel_rfl) (by kernel_rfl) (by kernel_rfl) (fun _ _ _ h => h) (Or.inl ⟨by rfl, fun w' hSw => by obtain ⟨s0, s1, s2, s3, s4, s5⟩ := hSw; go_simp⟩) hS ?_
        simp only [List.setIfInBounds_toArray, List.set_cons_zero, List.set_cons_succ]
        refine take_T 4 49 (.bool false) rfl (by rfl) (by kernel_rfl) (by decide) (by kernel_rfl) (by kernel_rfl) (by kernel_rfl) (fun _ _ _ h => h) (Or.inl ⟨by rfl, fun w' hSw => by obtain ⟨s0, s1, s2, s3, s4, s5⟩ := hSw; go_simp⟩) hS ?_
        simp only [List.setIfInBounds_toArray, List.set_cons_zero, List.set_cons_succ]
        refine take_T 5 50 undef rfl (by rfl) (by kernel_rfl) (by decide) (by kernel_rfl) (by kernel_rfl) (by kernel_rfl) (fun _ _ _ h => h) (Or.inr ⟨by rfl, rfl⟩) hS ?_
        simp only [List.setIfInBounds_toArray, List.set_cons_zero, List.set_cons_succ]
        refine take_T 6 51 undef rfl (by rfl) (by kernel_rfl) (by decide) (by kernel_rfl) (by kernel_rfl) (by kernel_rfl) (fun _ _ _ h => h) (Or.inr ⟨by rfl, rfl⟩) hS ?_
        simp only [List.setIfInBounds_toArray, List.set_cons_zero, List.set_cons_succ]
        refine take_T 7 52 undef rfl (by rfl) (by kernel_rfl) (by decide) (by kernel_rfl) (by kernel_rfl) (by kernel_rfl) (fun _ _ _ h => h) (Or.inr ⟨by rfl, rfl⟩) hS ?_
        simp only [List.setIfInBounds_toArray, List.set_cons_zero, List.set_cons_succ]
        refine take_T 8 53 undef rfl (by rfl) (by kernel_rfl) (by decide) (by kernel_rfl) (by kernel_rfl) (by kernel_rfl) (fun _ _ _ h => h) (Or.inr ⟨by rfl, rfl⟩) hS ?_
        simp only [List.setIfInBounds_toArray, List.set_cons_zero, List.set_cons_succ]
        refine take_T 9 54 (.bool false) rfl (by rfl) (by kernel_rfl) (by decide) (by kernel_rfl) (by kernel_rfl) (by kernel_rfl) (fun _ _ _ h => h) (Or.inl ⟨by rfl, fun w' hSw => by obtain ⟨s0, s1, s2, s3, s4, s5⟩ := hSw; go_simp⟩) hS ?_
        simp only [List.setIfInBounds_toArray, List.set_cons_zero, List.set_cons_succ]
        have HS9 := Lib.hid (show TkStK w q N kd (v1) D l true wr.drew from HSF.out.below (Below.refl _ _).drew)
        refine only_T 10 rfl (by kernel_rfl) (by decide) (by rfl) (fun K hK => ?_)
        refine wp_store_row 31 (.tmp 2) (.tmp 45) rfl w.heap.size #[.int .u8 kd, zS, v1, zS] rfl rfl 31 #[.int .u8 0, zS, zS, zS] HS9.out.res (by kernel_rfl) rfl HONE.out ?_
        obtain ⟨hown, hrow9⟩ := HS9.out.out HND.out
        have HOWN := Lib.hid hown
        have HROW9 := Lib.hid hrow9
        have hS2 : (wr.drew.setRow w.heap.size #[.int .u8 kd, zS, v1, zS]).cell? ⟨N, 0, none⟩ = some (.int .u8 kd) ∧ (wr.drew.setRow w.heap.size #[.int .u8 kd, zS, v1, zS]).cell? ⟨N, 1, none⟩ = some (zS) ∧ (wr.drew.setRow w.heap.size #[.int .u8 kd, zS, v1, zS]).cell? ⟨N, 2, none⟩ = some (v1) ∧ (wr.drew.setRow w.heap.size #[.int .u8 kd, zS, v1, zS]).cell? ⟨N, 3, none⟩ = some (zS) ∧ (wr.drew.setRow w.heap.size #[.int .u8 kd, zS, v1, zS]).cell? ⟨q, 0, none⟩ = some (.string (bs l)) ∧ (wr.drew.setRow w.heap.size #[.int .u8 kd, zS, v1, zS]).cell? ⟨q, 1, none⟩ = some (.bool true) := by
          have hs := grown_setRow wr.drew w.heap.size #[.int .u8 kd, zS, v1, zS]
          have rN := (hs.block N (row_lt HS9.out.row) (fun e => Nat.ne_of_lt HS9.out.n1 (Option.some.inj e).symm)).trans HS9.out.row
          have rq := (hs.block q HS9.out.tk.lt (fun e => Nat.ne_of_lt HS9.out.q1 (Option.some.inj e).symm)).trans HS9.out.tk
          exact ⟨cell_of_row _ _ 0 _ _ _ rN, cell_of_row _ _ 1 _ _ _ rN, cell_of_row _ _ 2 _ _ _ rN, cell_of_row _ _ 3 _ _ _ rN, cell_of_row _ _ 0 _ _ _ rq, cell_of_row _ _ 1 _ _ _ rq⟩
        refine hK.out _ _ hS2 ?_
        clear hK K
        try simp only [Act.put, List.setIfInBounds_toArray, List.set_cons_zero, List.set_cons_succ]
        clear hS hS2 hown hrow9
        generalize World.setRow _ _ _ = wz at *
        refine done_T (by kernel_rfl) ?_
        simp only [List.drop_succ_cons, List.drop_zero]
        go_wp2_with fail
        rw [Exit.noGoto_ret]
        refine bodyPost_ret (v := .tuple #[.agg #[.int .u8 kd, zS, v1, zS], .bool false]) (results_row2 rfl _ _ w.heap.size 31 #[.int .u8 kd, zS, v1, zS] (0, 0) _ rfl HROW9.out Tryz.underlying31 rfl (by kernel_rfl) _ rfl) rfl ?_
        exact ⟨_, by rw [HR2.out], HOWN.out⟩
set_option maxRecDepth 100000 in
set_option maxHeartbeats 8000000 in
theorem takenV (s : ByteArray) (h4 : s.size ≤ maxLen) (hkd : (tkNum 1 (s.data.toList, false)).1 = 3) (w : World) : Calls Tryz.prog 121 #[.string s] w (TkPost s.data.toList w) := by
  obtain ⟨kd, ⟨l1, b1⟩, e1⟩ : ∃ V s2, tkNum 1 (s.data.toList, false) = (V, s2) := ⟨_, _, rfl⟩
  obtain ⟨c, ⟨l2, b2⟩, e2⟩ : ∃ V s2, tkNum 1 (l1, b1) = (V, s2) := ⟨_, _, rfl⟩
  have hkd8 := num_byte (s.data.toList, false)
  have hc8 := num_byte (l1, b1)
  have hl1 := num_less 1 (s.data.toList, false)
  have hl2 := num_less 1 (l1, b1)
  rw [e1] at hkd8 hl1
  rw [e2] at hc8 hl2
  dsimp only at hkd8 hl1 hc8 hl2
  have hm1 : (bs l1).size ≤ maxLen := bs_le (s := s) hl1 h4
  have hm2 : (bs l2).size ≤ maxLen := bs_le (s := bs l1) hl2 hm1
  have HC1 := Lib.hid (show ∀ w q, TkR w q s false → Calls Tryz.prog 150 #[.pointer (some ⟨q, 0, none⟩), .int .i64 1] w fun e w' => e = .returned (.int .u64 (kd : Nat)) ∧ TkR w' q (bs l1) b1 ∧ w.grownBy w' (some q) from fun w q h => by
    have c := number_tk h 1 (by omega) (by omega) h4
    rw [e1] at c
    exact c)
  have HC2 := Lib.hid (show ∀ w q, TkR w q (bs l1) b1 → Calls Tryz.prog 150 #[.pointer (some ⟨q, 0, none⟩), .int .i64 1] w fun e w' => e = .returned (.int .u64 (c : Nat)) ∧ TkR w' q (bs l2) b2 ∧ w.grownBy w' (some q) from fun w q h => by
    have c := number_tk h 1 (by omega) (by omega) hm1
    rw [bs_data, e2] at c
    exact c)
  rw [e1] at hkd
  dsimp only at hkd
  have HT := Lib.hid (show tkN s.data.toList = (⟨kd, [], [], (tkMany cV c (l2, b2)).1⟩, !(tkMany cV c (l2, b2)).2.2 && allz (tkMany cV c (l2, b2)).2.1) by
    unfold tkN
    rw [e1]
    dsimp only
    rw [e2]
    dsimp only
    rw [if_neg (by omega), if_neg (by omega), if_pos hkd])
  have HM2 := Lib.hid hm2
  have HKD := Lib.hid hkd
  have eu : IntKind.u8.wrap (kd : Int) = (kd : Int) := IntWalk.u8_in _ (by omega)
  obtain ⟨R1, R2, S0, Z0⟩ := two_new w #[.int .u8 0, zS, zS, zS] #[.string s, .bool false] 31 203
  have HR1 := Lib.hid R1
  have HT2 := Lib.hid (show TkR _ (w.heap.size + 1) s false from R2)
  have HS0 := Lib.hid S0
  clear R1 R2 S0 Z0 hm1 hm2 hl1 hl2 hkd e1 e2 h4
  go_enter Tryz.func121, Tryz.ntmps121
  go_wp2_with fail
  go_step3
  go_wp2_with fail
  generalize (w.alloc _).alloc _ = W2 at *
  go_at_call 150
  refine (HC1.out _ _ HT2.out).mono ?_
  rintro e w3 ⟨rfl, ht, hg⟩
  have HT3 := Lib.hid ht
  have HR3 := Lib.hid ((hg.block w.heap.size (row_lt HR1.out) (fun e => by have := Option.some.inj e; omega)).trans HR1.out)
  have HB3 := Lib.hid (HS0.out.grown hg HS0.out.size (fun k hk => by cases hk; exact Nat.le_succ _))
  clear ht hg HT2 HR1 HS0
  go_wp2_with fail
  have hal : Below w3.heap.size w3 (w3.alloc (.cells #[.int .u8 kd, zS, zS, zS] 31)) := (Below.refl _ _).alloc (Nat.le_refl _) _
  have HN4 := Lib.hid (heap_alloc_new w3 (.cells #[.int .u8 kd, zS, zS, zS] 31))
  have HT4 := Lib.hid (HT3.out.below hal)
  have HR4 := Lib.hid ((hal.block w.heap.size (row_lt HR3.out)).trans HR3.out)
  have HB4 := Lib.hid (HB3.out.trans (hal.mono HB3.out.size))
  have HN1 := Lib.hid (show w.heap.size < w3.heap.size from row_lt HR3.out)
  have HQN := Lib.hid (show w.heap.size + 1 ≠ w3.heap.size from Nat.ne_of_lt HT3.out.lt)
  have HQ1 := Lib.hid (show w.heap.size < w.heap.size + 1 from Nat.lt_succ_self _)
  have HS4 := Lib.hid (show TkStV w (w.heap.size + 1) w3.heap.size kd zS [] l1 b1 (w3.alloc (.cells #[.int .u8 kd, zS, zS, zS] 31)) from ⟨HT4.out, HN4.out, HR4.out, Mk.nil HB4.out, HQ1.out, HN1.out, HQN.out⟩)
  clear hal HN4 HT3 HR3 HB3 HR4 HB4 HN1 HQN HQ1
  generalize w3.alloc _ = w4 at *
  generalize w3.heap.size = N at *
  go_at_call 150
  refine (HC2.out _ _ HT4.out).mono ?_
  rintro e w5 ⟨rfl, ht, hg⟩
  have HS5 := Lib.hid (HS4.out.took ht hg)
  clear ht hg HS4 HT4 HC1 HC2
  generalize hq : w.heap.size + 1 = q at *
  clear hq
  go_wp2_with fail
  go_step3
  go_wp2_with fail
  go_loopw [14] (fun iv wr => ∃ (i : Nat) (v1 : Value) (D : List Vo) (l : List UInt8) (b : Bool), i ≤ c ∧ iv = .int .u64 i ∧ Hid (TkStV w q N kd v1 D l b wr) ∧ Hid (TkInv cV c (l2, b2) i D l b)) (fun iv _ => c - (intOf iv).toNat)
  case atStart => exact ⟨0, zS, [], l2, b2, Nat.zero_le _, by go_num, HS5.out, TkInv.start⟩
  case round =>
    obtain ⟨i, v1, D, l, b, hi, rfl, hst, hinv⟩ := hrel
    have HLB := Lib.hid (show (bs l).size ≤ maxLen from bs_le (s := bs l2) (Hid.out hinv).2.2.1 HM2.out)
    by_cases hlt : i < c
    · have HIL := Lib.hid (show D.length ≤ 255 by have := (Hid.out hinv).2.1; omega)
      obtain ⟨x, ⟨l3, b3⟩, e3⟩ : ∃ x s2, cV.tk (l, b) = (x, s2) := ⟨_, _, rfl⟩
      have HL3 := Lib.hid (less_of V_less e3)
      have HCT := Lib.hid (fun w h => volume_tkL (w := w) (q := q) e3 HLB.out h)
      have HE3 := Lib.hid e3
      have HM3 := Lib.hid (show (bs l3).size ≤ maxLen from bs_le (s := bs l) HL3.out HLB.out)
      clear e3
      have k0 : wr.cell? ⟨N, 0, none⟩ = some (.int .u8 kd) := cell_of_row _ _ 0 _ _ _ (Hid.out hst).row
      have q1 : ((kd : Int) == 1) = false := by rw [beq_eq_false_iff_ne]; have := HKD.out; omega
      have q2 : ((kd : Int) == 2) = false := by rw [beq_eq_false_iff_ne]; have := HKD.out; omega
      have q3 : ((kd : Int) == 3) = true := by rw [HKD.out]; rfl
      go_wp2_with fail
      refine wp_region_T (fun w' : World => w'.cell? ⟨N, 3, none⟩ = some v1) 5 (by kernel_rfl) (by kernel_rfl) ?_
      have hS : wr.drew.cell? ⟨N, 3, none⟩ = some v1 := cell_of_row _ _ 3 _ _ _ (Hid.out hst).row
      refine take_T 0 36 (.pointer (some ⟨N, 3, none⟩)) rfl (by rfl) (by kernel_rfl) (by decide) (by kernel_rfl) (by kernel_rfl) (by kernel_rfl) (fun _ _ _ h => h) (Or.inl ⟨by rfl, fun w' hSw => by go_simp⟩) hS ?_
      simp only [List.setIfInBounds_toArray, List.set_cons_zero, List.set_cons_succ]
      refine take_T 1 37 (v1) rfl (by rfl) (by kernel_rfl) (by decide) (by kernel_rfl) (by kernel_rfl) (by kernel_rfl) (fun _ _ _ h => h) (Or.inl ⟨by rfl, fun w' hSw => by go_simp⟩) hS ?_
      simp only [List.setIfInBounds_toArray, List.set_cons_zero, List.set_cons_succ]
      refine only_T 2 rfl (by kernel_rfl) (by decide) (by rfl) (fun K hK => ?_)
      go_wp2_with fail
      go_at_call 153
      refine (HCT.out _ (show TkR wr.drew q (bs l) b from (Hid.out hst).tk)).mono ?_
      rintro e w3 ⟨rfl, ht, hg⟩
      have HS3 := Lib.hid (((Hid.out hst).below (Below.refl _ _).drew).took ht hg)
      clear ht hg hst k0
      have hS2 : w3.cell? ⟨N, 3, none⟩ = some v1 := cell_of_row _ _ 3 _ _ _ HS3.out.row
      refine hK.out _ _ hS2 ?_
      clear hK K
      try simp only [Act.put, List.setIfInBounds_toArray, List.set_cons_zero, List.set_cons_succ]
      clear hS
      have hS := hS2
      clear hS2
      refine only_T 3 rfl (by kernel_rfl) (by decide) (by rfl) (fun K hK => ?_)
      refine op_oneV (.tmp 38) x rfl rfl ?_
      have hal : Below w3.heap.size w3 (w3.alloc (.cells (ecV x).toArray 121)) := (Below.refl _ _).alloc (Nat.le_refl _) _
      have HS4 := Lib.hid (HS3.out.below hal)
      have HX4 := Lib.hid (heap_alloc_new w3 (.cells (ecV x).toArray 121))
      clear hal HS3
      generalize w3.alloc _ = w4 at *
      generalize w3.heap.size = g4 at *
      have hS2 : w4.cell? ⟨N, 3, none⟩ = some v1 := cell_of_row _ _ 3 _ _ _ HS4.out.row
      refine hK.out _ _ hS2 ?_
      clear hK K
      try simp only [Act.put, List.setIfInBounds_toArray, List.set_cons_zero, List.set_cons_succ]
      clear hS
      have hS := hS2
      clear hS2
      refine only_T 4 rfl (by kernel_rfl) (by decide) (by rfl) (fun K hK => ?_)
      refine op_catV HS4.out.own x g4 1 HX4.out (by have := HIL.out; omega) (.tmp 37) (.tmp 39) rfl rfl rfl ?_
      intro v5 w5x hm5 hg5 hat5
      obtain ⟨A5, n5, c5, rfl⟩ : ∃ A n c, v5 = .slice A n c := by obtain ⟨A, c, h, _⟩ := hm5.ls ecV_len; exact ⟨A, _, c, h⟩
      have HS5x := Lib.hid (HS4.out.put hm5 hg5)
      have hq5 := HS4.out.own.off HS4.out.tk (by decide)
      have hN5 := HS4.out.own.off HS4.out.row (by decide)
      have tN := (hg5.block N (row_lt HS4.out.row) (fun e => hN5 e.symm)).trans HS4.out.row
      have hS2 : w5x.cell? ⟨N, 3, none⟩ = some v1 := cell_of_row _ _ 3 _ _ _ tN
      have f5 : w5x.frozen? ⟨N, 3, none⟩ = false := frozen_of_row _ _ _ _ _ tN
      clear hm5 hg5 hat5 hq5 hN5 tN HS4 HX4
      refine hK.out _ _ hS2 ?_
      clear hK K
      try simp only [Act.put, List.setIfInBounds_toArray, List.set_cons_zero, List.set_cons_succ]
      clear hS
      have hS := hS2
      clear hS2
      refine done_T (by kernel_rfl) ?_
      simp only [List.drop_succ_cons, List.drop_zero]
      have d1 : (w5x.setCell ⟨N, 3, none⟩ (.slice A5 n5 c5)).cell? ⟨q, 1, none⟩ = some (.bool b3) := HS5x.out.tk.c1
      cases b3
      · have HI2 := Lib.hid ((Hid.out hinv).step hlt HE3.out HL3.out)
        clear hinv HE3 HCT HL3
        go_wp2_with fail
        exact ⟨⟨i + 1, _, D ++ [x], l3, false, by omega, by go_num, HS5x.out, HI2.out⟩, by simp [intOf] <;> omega⟩
      · have HDN0 := Lib.hid ((Hid.out hinv).stop hlt HE3.out)
        clear hinv HE3 HCT HL3
        go_wp2_with fail
        clear d1 f5 hS
        generalize World.setCell _ _ _ = wE at *
        obtain ⟨DE, hDE⟩ : ∃ DE, D ++ [x] = DE := ⟨_, rfl⟩
        rw [hDE] at HDN0 HS5x
        clear hDE
        have HDN := HDN0
        have HONE := Lib.hid (show (#[.int .u8 kd, zS, zS, (.slice A5 n5 c5)] : Array Value).all (·.oneCell') = true from four_cells _ _ _ _ rfl rfl rfl rfl)
        have HR2 := Lib.hid (show (tkN s.data.toList).2 = false by rw [HT.out, HDN.out]; rfl)
        have HND := Lib.hid (show (tkN s.data.toList).1 = ⟨kd, [], [], DE⟩ by rw [HT.out, HDN.out])
        have HSF := Lib.hid (HS5x.out)
        have HKP := Lib.hid (show ∀ w' : World, TkStV w q N kd ((.slice A5 n5 c5)) DE l3 true w' → w'.cell? ⟨N, 0, none⟩ = some (.int .u8 kd) ∧ w'.cell? ⟨N, 1, none⟩ = some (zS) ∧ w'.cell? ⟨N, 2, none⟩ = some (zS) ∧ w'.cell? ⟨N, 3, none⟩ = some ((.slice A5 n5 c5)) ∧ w'.cell? ⟨q, 0, none⟩ = some (.string (bs l3)) ∧ w'.cell? ⟨q, 1, none⟩ = some (.bool true) from fun w' h => ⟨cell_of_row _ _ 0 _ _ _ h.row, cell_of_row _ _ 1 _ _ _ h.row, cell_of_row _ _ 2 _ _ _ h.row, cell_of_row _ _ 3 _ _ _ h.row, h.tk.c0, h.tk.c1⟩)
        refine wp_region_T (fun w' : World => w'.cell? ⟨N, 0, none⟩ = some (.int .u8 kd) ∧ w'.cell? ⟨N, 1, none⟩ = some (zS) ∧ w'.cell? ⟨N, 2, none⟩ = some (zS) ∧ w'.cell? ⟨N, 3, none⟩ = some ((.slice A5 n5 c5)) ∧ w'.cell? ⟨q, 0, none⟩ = some (.string (bs l3)) ∧ w'.cell? ⟨q, 1, none⟩ = some (.bool true)) 11 (by kernel_rfl) (by kernel_rfl) ?_
        have hS := HKP.out wE.drew (HSF.out.below (Below.refl _ _).drew)
        refine take_T 0 45 (.agg #[.int .u8 kd, zS, zS, (.slice A5 n5 c5)]) rfl (by rfl) (by kernel_rfl) (by decide) (by kernel_rfl) (by kernel_rfl) (by kernel_rfl) (fun _ _ _ h => h) (Or.inl ⟨by rfl, fun w' hSw => by obtain ⟨s0, s1, s2, s3, s4, s5⟩ := hSw; go_simp⟩) hS ?_
        simp only [List.setIfInBounds_toArray, List.set_cons_zero, List.set_cons_succ]
        refine take_T 1 46 (.pointer (some ⟨q, 1, none⟩)) rfl (by rfl) (by kernel_rfl) (by decide) (by kernel_rfl) (by kernel_rfl) (by kernel_rfl) (fun _ _ _ h => h) (Or.inl ⟨by rfl, fun w' hSw => by obtain ⟨s0, s1, s2, s3, s4, s5⟩ := hSw; go_simp⟩) hS ?_
        simp only [List.setIfInBounds_toArray, List.set_cons_zero, List.set_cons_succ]
        refine take_T 2 47 (.bool true) rfl (by rfl) (by kernel_rfl) (by decide) (by kernel_rfl) (by kernel_rfl) (by kernel_rfl) (fun _ _ _ h => h) (Or.inl ⟨by rfl, fun w' hSw => by obtain ⟨s0, s1, s2, s3, s4, s5⟩ := hSw; go_simp⟩) hS ?_
        simp only [List.setIfInBounds_toArray, List.set_cons_zero, List.set_cons_succ]
        refine take_T 3 48 (.bool false) rfl (by rfl) (by kernel_rfl) (by decide) (by kernel_rfl) (by kernel_rfl) (by kernel_rfl) (fun _ _ _ h => h) (Or.inl ⟨by rfl, fun w' hSw => by obtain ⟨s0, s1, s2, s3, s4, s5⟩ := hSw; go_simp⟩) hS ?_
        simp only [List.setIfInBounds_toArray, List.set_cons_zero, List.set_cons_succ]
        refine take_T 4 49 (.bool false) rfl (by rfl) (by kernel_rfl) (by decide) (by kernel_rfl) (by kernel_rfl) (by kernel_rfl) (fun _ _ _ h => h) (Or.inl ⟨by rfl, fun w' hSw => by obtain ⟨s0, s1, s2, s3, s4, s5⟩ := hSw; go_simp⟩) hS ?_
        simp only [List.setIfInBounds_toArray, List.set_cons_zero, List.set_cons_succ]
        refine take_T 5 50 undef rfl (by rfl) (by kernel_rfl) (by decide) (by kernel_rfl) (by kernel_rfl) (by kernel_rfl) (fun _ _ _ h => h) (Or.inr ⟨by rfl, rfl⟩) hS ?_
        simp only [List.setIfInBounds_toArray, List.set_cons_zero, List.set_cons_succ]
        refine take_T 6 51 undef rfl (by rfl) (by kernel_rfl) (by decide) (by kernel_rfl) (by kernel_rfl) (by kernel_rfl) (fun _ _ _ h => h) (Or.inr ⟨by rfl, rfl⟩) hS ?_
        simp only [List.setIfInBounds_toArray, List.set_cons_zero, List.set_cons_succ]
        refine take_T 7 52 undef rfl (by rfl) (by kernel_rfl) (by decide) (by kernel_rfl) (by kernel_rfl) (by kernel_rfl) (fun _ _ _ h => h) (Or.inr ⟨by rfl, rfl⟩) hS ?_
        simp only [List.setIfInBounds_toArray, List.set_cons_zero, List.set_cons_succ]
        refine take_T 8 53 undef rfl (by rfl) (by kernel_rfl) (by decide) (by kernel_rfl) (by kernel_rfl) (by kernel_rfl) (fun _ _ _ h => h) (Or.inr ⟨by rfl, rfl⟩) hS ?_
        simp only [List.setIfInBounds_toArray, List.set_cons_zero, List.set_cons_succ]
        refine take_T 9 54 (.bool false) rfl (by rfl) (by kernel_rfl) (by decide) (by kernel_rfl) (by kernel_rfl) (by kernel_rfl) (fun _ _ _ h => h) (Or.inl ⟨by rfl, fun w' hSw => by obtain ⟨s0, s1, s2, s3, s4, s5⟩ := hSw; go_simp⟩) hS ?_
        simp only [List.setIfInBounds_toArray, List.set_cons_zero, List.set_cons_succ]
        have HS9 := Lib.hid (show TkStV w q N kd ((.slice A5 n5 c5)) DE l3 true wE.drew from HSF.out.below (Below.refl _ _).drew)
        refine only_T 10 rfl (by kernel_rfl) (by decide) (by rfl) (fun K hK => ?_)
        refine wp_store_row 31 (.tmp 2) (.tmp 45) rfl w.heap.size #[.int .u8 kd, zS, zS, (.slice A5 n5 c5)] rfl rfl 31 #[.int .u8 0, zS, zS, zS] HS9.out.res (by kernel_rfl) rfl HONE.out ?_
        obtain ⟨hown, hrow9⟩ := HS9.out.out HND.out
        have HOWN := Lib.hid hown
        have HROW9 := Lib.hid hrow9
        have hS2 : (wE.drew.setRow w.heap.size #[.int .u8 kd, zS, zS, (.slice A5 n5 c5)]).cell? ⟨N, 0, none⟩ = some (.int .u8 kd) ∧ (wE.drew.setRow w.heap.size #[.int .u8 kd, zS, zS, (.slice A5 n5 c5)]).cell? ⟨N, 1, none⟩ = some (zS) ∧ (wE.drew.setRow w.heap.size #[.int .u8 kd, zS, zS, (.slice A5 n5 c5)]).cell? ⟨N, 2, none⟩ = some (zS) ∧ (wE.drew.setRow w.heap.size #[.int .u8 kd, zS, zS, (.slice A5 n5 c5)]).cell? ⟨N, 3, none⟩ = some ((.slice A5 n5 c5)) ∧ (wE.drew.setRow w.heap.size #[.int .u8 kd, zS, zS, (.slice A5 n5 c5)]).cell? ⟨q, 0, none⟩ = some (.string (bs l3)) ∧ (wE.drew.setRow w.heap.size #[.int .u8 kd, zS, zS, (.slice A5 n5 c5)]).cell? ⟨q, 1, none⟩ = some (.bool true) := by
          have hs := grown_setRow wE.drew w.heap.size #[.int .u8 kd, zS, zS, (.slice A5 n5 c5)]
          have rN := (hs.block N (row_lt HS9.out.row) (fun e => Nat.ne_of_lt HS9.out.n1 (Option.some.inj e).symm)).trans HS9.out.row
          have rq := (hs.block q HS9.out.tk.lt (fun e => Nat.ne_of_lt HS9.out.q1 (Option.some.inj e).symm)).trans HS9.out.tk
          exact ⟨cell_of_row _ _ 0 _ _ _ rN, cell_of_row _ _ 1 _ _ _ rN, cell_of_row _ _ 2 _ _ _ rN, cell_of_row _ _ 3 _ _ _ rN, cell_of_row _ _ 0 _ _ _ rq, cell_of_row _ _ 1 _ _ _ rq⟩
        refine hK.out _ _ hS2 ?_
        clear hK K
        try simp only [Act.put, List.setIfInBounds_toArray, List.set_cons_zero, List.set_cons_succ]
        clear hS hS2 hown hrow9
        generalize World.setRow _ _ _ = wz at *
        refine done_T (by kernel_rfl) ?_
        simp only [List.drop_succ_cons, List.drop_zero]
        go_wp2_with fail
        rw [Exit.noGoto_ret]
        refine bodyPost_ret (v := .tuple #[.agg #[.int .u8 kd, zS, zS, (.slice A5 n5 c5)], .bool false]) (results_row2 rfl _ _ w.heap.size 31 #[.int .u8 kd, zS, zS, (.slice A5 n5 c5)] (0, 0) _ rfl HROW9.out Tryz.underlying31 rfl (by kernel_rfl) _ rfl) rfl ?_
        exact ⟨_, by rw [HR2.out], HOWN.out⟩
    · have HDN := Lib.hid ((Hid.out hinv).done hlt)
      clear hinv
      have HSX := Lib.hid (Hid.out hst)
      clear hst
      have HONE := Lib.hid (show (#[.int .u8 kd, zS, zS, v1] : Array Value).all (·.oneCell') = true by rcases HSX.out.own.1.2 with ⟨h, _⟩ | ⟨g, cap, cur, h, _⟩ <;> (subst h; exact four_cells _ _ _ _ rfl rfl rfl rfl))
      have HLE := HLB
      cases b
      · go_wp2_with fail
        clear hlt hi
        have HTR := Lib.hid (show ∀ w', Calls Tryz.prog 154 #[.string (bs l), .string ⟨#[0]⟩] w' fun e w2 => e = .returned (.string (bs (Lib.trimB l 0))) ∧ (w2 = w' ∨ w2 = w'.drew) from fun w' => Tryz.strings_Trim_one (bs l) 0 (by decide) w' (by have := HLE.out; unfold maxLen at this; omega))
        have HND := Lib.hid (show (tkN s.data.toList).1 = ⟨kd, [], [], D⟩ by rw [HT.out, HDN.out])
        by_cases hz : allz l = true
        · have HR2 := Lib.hid (show (tkN s.data.toList).2 = true by rw [HT.out, HDN.out]; show (!false && allz l) = true; rw [hz]; rfl)
          have hz1 : (bs (Lib.trimB l 0)).toList = [] := str_nil (by rw [bs_size, (trimB_nil l).2 hz]; rfl)
          have hz2 : (bs (Lib.trimB l 0)).toList.isEmpty = true := by rw [hz1]; rfl
          clear hz
          have HSF := Lib.hid (HSX.out)
          have HKP := Lib.hid (show ∀ w' : World, TkStV w q N kd (v1) D l false w' → w'.cell? ⟨N, 0, none⟩ = some (.int .u8 kd) ∧ w'.cell? ⟨N, 1, none⟩ = some (zS) ∧ w'.cell? ⟨N, 2, none⟩ = some (zS) ∧ w'.cell? ⟨N, 3, none⟩ = some (v1) ∧ w'.cell? ⟨q, 0, none⟩ = some (.string (bs l)) ∧ w'.cell? ⟨q, 1, none⟩ = some (.bool false) from fun w' h => ⟨cell_of_row _ _ 0 _ _ _ h.row, cell_of_row _ _ 1 _ _ _ h.row, cell_of_row _ _ 2 _ _ _ h.row, cell_of_row _ _ 3 _ _ _ h.row, h.tk.c0, h.tk.c1⟩)
          refine wp_region_T (fun w' : World => w'.cell? ⟨N, 0, none⟩ = some (.int .u8 kd) ∧ w'.cell? ⟨N, 1, none⟩ = some (zS) ∧ w'.cell? ⟨N, 2, none⟩ = some (zS) ∧ w'.cell? ⟨N, 3, none⟩ = some (v1) ∧ w'.cell? ⟨q, 0, none⟩ = some (.string (bs l)) ∧ w'.cell? ⟨q, 1, none⟩ = some (.bool false)) 11 (by kernel_rfl) (by kernel_rfl) ?_
          have hS := HKP.out wr.drew (HSF.out.below (Below.refl _ _).drew)
          refine take_T 0 45 (.agg #[.int .u8 kd, zS, zS, v1]) rfl (by rfl) (by kernel_rfl) (by decide) (by kernel_rfl) (by kernel_rfl) (by kernel_rfl) (fun _ _ _ h => h) (Or.inl ⟨by rfl, fun w' hSw => by obtain ⟨s0, s1, s2, s3, s4, s5⟩ := hSw; go_simp⟩) hS ?_
          simp only [List.setIfInBounds_toArray, List.set_cons_zero, List.set_cons_succ]
          refine take_T 1 46 (.pointer (some ⟨q, 1, none⟩)) rfl (by rfl) (by kernel_rfl) (by decide) (by kernel_rfl) (by kernel_rfl) (by kernel_rfl) (fun _ _ _ h => h) (Or.inl ⟨by rfl, fun w' hSw => by obtain ⟨s0, s1, s2, s3, s4, s5⟩ := hSw; go_simp⟩) hS ?_
          simp only [List.setIfInBounds_toArray, List.set_cons_zero, List.set_cons_succ]
          refine take_T 2 47 (.bool false) rfl (by rfl) (by kernel_rfl) (by decide) (by kernel_rfl) (by kernel_rfl) (by kernel_rfl) (fun _ _ _ h => h) (Or.inl ⟨by rfl, fun w' hSw => by obtain ⟨s0, s1, s2, s3, s4, s5⟩ := hSw; go_simp⟩) hS ?_
          simp only [List.setIfInBounds_toArray, List.set_cons_zero, List.set_cons_succ]
          refine take_T 3 48 (.bool true) rfl (by rfl) (by kernel_rfl) (by decide) (by kernel_rfl) (by kernel_rfl) (by kernel_rfl) (fun _ _ _ h => h) (Or.inl ⟨by rfl, fun w' hSw => by obtain ⟨s0, s1, s2, s3, s4, s5⟩ := hSw; go_simp⟩) hS ?_
          simp only [List.setIfInBounds_toArray, List.set_cons_zero, List.set_cons_succ]
          refine take_T 4 49 (.bool true) rfl (by rfl) (by kernel_rfl) (by decide) (by kernel_rfl) (by kernel_rfl) (by kernel_rfl) (fun _ _ _ h => h) (Or.inl ⟨by rfl, fun w' hSw => by obtain ⟨s0, s1, s2, s3, s4, s5⟩ := hSw; go_simp⟩) hS ?_
          simp only [List.setIfInBounds_toArray, List.set_cons_zero, List.set_cons_succ]
          refine take_T 5 50 (.pointer (some ⟨q, 0, none⟩)) rfl (by rfl) (by kernel_rfl) (by decide) (by kernel_rfl) (by kernel_rfl) (by kernel_rfl) (fun _ _ _ h => h) (Or.inl ⟨by rfl, fun w' hSw => by obtain ⟨s0, s1, s2, s3, s4, s5⟩ := hSw; go_simp⟩) hS ?_
          simp only [List.setIfInBounds_toArray, List.set_cons_zero, List.set_cons_succ]
          refine take_T 6 51 (.string (bs l)) rfl (by rfl) (by kernel_rfl) (by decide) (by kernel_rfl) (by kernel_rfl) (by kernel_rfl) (fun _ _ _ h => h) (Or.inl ⟨by rfl, fun w' hSw => by obtain ⟨s0, s1, s2, s3, s4, s5⟩ := hSw; go_simp⟩) hS ?_
          simp only [List.setIfInBounds_toArray, List.set_cons_zero, List.set_cons_succ]
          refine only_T 7 rfl (by kernel_rfl) (by decide) (by rfl) (fun K hK => ?_)
          go_wp2_with fail
          go_at_call 154
          refine (HTR.out _).mono ?_
          rintro e w9 ⟨rfl, hw9⟩
          have HS9 := Lib.hid (show TkStV w q N kd (v1) D l false w9 from by
            rcases hw9 with rfl | rfl
            · exact HSF.out.below (Below.refl _ _).drew
            · exact (HSF.out.below (Below.refl _ _).drew).below (Below.refl _ _).drew)
          clear hw9
          have hS2 := HKP.out _ HS9.out
          refine hK.out _ _ hS2 ?_
          clear hK K
          try simp only [Act.put, List.setIfInBounds_toArray, List.set_cons_zero, List.set_cons_succ]
          clear hS
          have hS := hS2
          clear hS2
          refine take_T 8 53 (.bool true) rfl (by rfl) (by kernel_rfl) (by decide) (by kernel_rfl) (by kernel_rfl) (by kernel_rfl) (fun _ _ _ h => h) (Or.inl ⟨by rfl, fun w' hSw => by obtain ⟨s0, s1, s2, s3, s4, s5⟩ := hSw; go_simp⟩) hS ?_
          simp only [List.setIfInBounds_toArray, List.set_cons_zero, List.set_cons_succ]
          refine take_T 9 54 (.bool true) rfl (by rfl) (by kernel_rfl) (by decide) (by kernel_rfl) (by kernel_rfl) (by kernel_rfl) (fun _ _ _ h => h) (Or.inl ⟨by rfl, fun w' hSw => by obtain ⟨s0, s1, s2, s3, s4, s5⟩ := hSw; go_simp⟩) hS ?_
          simp only [List.setIfInBounds_toArray, List.set_cons_zero, List.set_cons_succ]
          refine only_T 10 rfl (by kernel_rfl) (by decide) (by rfl) (fun K hK => ?_)
          refine wp_store_row 31 (.tmp 2) (.tmp 45) rfl w.heap.size #[.int .u8 kd, zS, zS, v1] rfl rfl 31 #[.int .u8 0, zS, zS, zS] HS9.out.res (by kernel_rfl) rfl HONE.out ?_
          obtain ⟨hown, hrow9⟩ := HS9.out.out HND.out
          have HOWN := Lib.hid hown
          have HROW9 := Lib.hid hrow9
          have hS2 : (w9.setRow w.heap.size #[.int .u8 kd, zS, zS, v1]).cell? ⟨N, 0, none⟩ = some (.int .u8 kd) ∧ (w9.setRow w.heap.size #[.int .u8 kd, zS, zS, v1]).cell? ⟨N, 1, none⟩ = some (zS) ∧ (w9.setRow w.heap.size #[.int .u8 kd, zS, zS, v1]).cell? ⟨N, 2, none⟩ = some (zS) ∧ (w9.setRow w.heap.size #[.int .u8 kd, zS, zS, v1]).cell? ⟨N, 3, none⟩ = some (v1) ∧ (w9.setRow w.heap.size #[.int .u8 kd, zS, zS, v1]).cell? ⟨q, 0, none⟩ = some (.string (bs l)) ∧ (w9.setRow w.heap.size #[.int .u8 kd, zS, zS, v1]).cell? ⟨q, 1, none⟩ = some (.bool false) := by
            have hs := grown_setRow w9 w.heap.size #[.int .u8 kd, zS, zS, v1]
            have rN := (hs.block N (row_lt HS9.out.row) (fun e => Nat.ne_of_lt HS9.out.n1 (Option.some.inj e).symm)).trans HS9.out.row
            have rq := (hs.block q HS9.out.tk.lt (fun e => Nat.ne_of_lt HS9.out.q1 (Option.some.inj e).symm)).trans HS9.out.tk
            exact ⟨cell_of_row _ _ 0 _ _ _ rN, cell_of_row _ _ 1 _ _ _ rN, cell_of_row _ _ 2 _ _ _ rN, cell_of_row _ _ 3 _ _ _ rN, cell_of_row _ _ 0 _ _ _ rq, cell_of_row _ _ 1 _ _ _ rq⟩
          refine hK.out _ _ hS2 ?_
          clear hK K
          try simp only [Act.put, List.setIfInBounds_toArray, List.set_cons_zero, List.set_cons_succ]
          clear hS hS2 hown hrow9
          generalize World.setRow _ _ _ = wz at *
          refine done_T (by kernel_rfl) ?_
          simp only [List.drop_succ_cons, List.drop_zero]
          go_wp2_with fail
          rw [Exit.noGoto_ret]
          refine bodyPost_ret (v := .tuple #[.agg #[.int .u8 kd, zS, zS, v1], .bool true]) (results_row2 rfl _ _ w.heap.size 31 #[.int .u8 kd, zS, zS, v1] (0, 0) _ rfl HROW9.out Tryz.underlying31 rfl (by kernel_rfl) _ rfl) rfl ?_
          exact ⟨_, by rw [HR2.out], HOWN.out⟩
        · have hz0 : (bs (Lib.trimB l 0)).size ≠ 0 := by
            rw [bs_size]; intro h; exact hz ((trimB_nil l).1 (List.eq_nil_of_length_eq_zero h))
          have HR2 := Lib.hid (show (tkN s.data.toList).2 = false by rw [HT.out, HDN.out]; show (!false && allz l) = false; rw [Bool.eq_false_iff.2 hz]; rfl)
          have hz1 := str_empty hz0
          have hz2 := str_nonil hz0
          clear hz hz0
          have HSF := Lib.hid (HSX.out)
          have HKP := Lib.hid (show ∀ w' : World, TkStV w q N kd (v1) D l false w' → w'.cell? ⟨N, 0, none⟩ = some (.int .u8 kd) ∧ w'.cell? ⟨N, 1, none⟩ = some (zS) ∧ w'.cell? ⟨N, 2, none⟩ = some (zS) ∧ w'.cell? ⟨N, 3, none⟩ = some (v1) ∧ w'.cell? ⟨q, 0, none⟩ = some (.string (bs l)) ∧ w'.cell? ⟨q, 1, none⟩ = some (.bool false) from fun w' h => ⟨cell_of_row _ _ 0 _ _ _ h.row, cell_of_row _ _ 1 _ _ _ h.row, cell_of_row _ _ 2 _ _ _ h.row, cell_of_row _ _ 3 _ _ _ h.row, h.tk.c0, h.tk.c1⟩)
          refine wp_region_T (fun w' : World => w'.cell? ⟨N, 0, none⟩ = some (.int .u8 kd) ∧ w'.cell? ⟨N, 1, none⟩ = some (zS) ∧ w'.cell? ⟨N, 2, none⟩ = some (zS) ∧ w'.cell? ⟨N, 3, none⟩ = some (v1) ∧ w'.cell? ⟨q, 0, none⟩ = some (.string (bs l)) ∧ w'.cell? ⟨q, 1, none⟩ = some (.bool false)) 11 (by kernel_rfl) (by kernel_rfl) ?_
          have hS := HKP.out wr.drew (HSF.out.below (Below.refl _ _).drew)
          refine take_T 0 45 (.agg #[.int .u8 kd, zS, zS, v1]) rfl (by rfl) (by kernel_rfl) (by decide) (by kernel_rfl) (by kernel_rfl) (by kernel_rfl) (fun _ _ _ h => h) (Or.inl ⟨by rfl, fun w' hSw => by obtain ⟨s0, s1, s2, s3, s4, s5⟩ := hSw; go_simp⟩) hS ?_
          simp only [List.setIfInBounds_toArray, List.set_cons_zero, List.set_cons_succ]
          refine take_T 1 46 (.pointer (some ⟨q, 1, none⟩)) rfl (by rfl) (by kernel_rfl) (by decide) (by kernel_rfl) (by kernel_rfl) (by kernel_rfl) (fun _ _ _ h => h) (Or.inl ⟨by rfl, fun w' hSw => by obtain ⟨s0, s1, s2, s3, s4, s5⟩ := hSw; go_simp⟩) hS ?_
          simp only [List.setIfInBounds_toArray, List.set_cons_zero, List.set_cons_succ]
          refine take_T 2 47 (.bool false) rfl (by rfl) (by kernel_rfl) (by decide) (by kernel_rfl) (by kernel_rfl) (by kernel_rfl) (fun _ _ _ h => h) (Or.inl ⟨by rfl, fun w' hSw => by obtain ⟨s0, s1, s2, s3, s4, s5⟩ := hSw; go_simp⟩) hS ?_
          simp only [List.setIfInBounds_toArray, List.set_cons_zero, List.set_cons_succ]
          refine take_T 3 48 (.bool true) rfl (by rfl) (by kernel_rfl) (by decide) (by kernel_rfl) (by kernel_rfl) (by kernel_rfl) (fun _ _ _ h => h) (Or.inl ⟨by rfl, fun w' hSw => by obtain ⟨s0, s1, s2, s3, s4, s5⟩ := hSw; go_simp⟩) hS ?_
          simp only [List.setIfInBounds_toArray, List.set_cons_zero, List.set_cons_succ]
          refine take_T 4 49 (.bool true) rfl (by rfl) (by kernel_rfl) (by decide) (by kernel_rfl) (by kernel_rfl) (by kernel_rfl) (fun _ _ _ h => h) (Or.inl ⟨by rfl, fun w' hSw => by obtain ⟨s0, s1, s2, s3, s4, s5⟩ := hSw; go_simp⟩) hS ?_
          simp only [List.setIfInBounds_toArray, List.set_cons_zero, List.set_cons_succ]
          refine take_T 5 50 (.pointer (some ⟨q, 0, none⟩)) rfl (by rfl) (by kernel_rfl) (by decide) (by kernel_rfl) (by kernel_rfl) (by kernel_rfl) (fun _ _ _ h => h) (Or.inl ⟨by rfl, fun w' hSw => by obtain ⟨s0, s1, s2, s3, s4, s5⟩ := hSw; go_simp⟩) hS ?_
          simp only [List.setIfInBounds_toArray, List.set_cons_zero, List.set_cons_succ]
          refine take_T 6 51 (.string (bs l)) rfl (by rfl) (by kernel_rfl) (by decide) (by kernel_rfl) (by kernel_rfl) (by kernel_rfl) (fun _ _ _ h => h) (Or.inl ⟨by rfl, fun w' hSw => by obtain ⟨s0, s1, s2, s3, s4, s5⟩ := hSw; go_simp⟩) hS ?_
          simp only [List.setIfInBounds_toArray, List.set_cons_zero, List.set_cons_succ]
          refine only_T 7 rfl (by kernel_rfl) (by decide) (by rfl) (fun K hK => ?_)
          go_wp2_with fail
          go_at_call 154
          refine (HTR.out _).mono ?_
          rintro e w9 ⟨rfl, hw9⟩
          have HS9 := Lib.hid (show TkStV w q N kd (v1) D l false w9 from by
            rcases hw9 with rfl | rfl
            · exact HSF.out.below (Below.refl _ _).drew
            · exact (HSF.out.below (Below.refl _ _).drew).below (Below.refl _ _).drew)
          clear hw9
          have hS2 := HKP.out _ HS9.out
          refine hK.out _ _ hS2 ?_
          clear hK K
          try simp only [Act.put, List.setIfInBounds_toArray, List.set_cons_zero, List.set_cons_succ]
          clear hS
          have hS := hS2
          clear hS2
          refine take_T 8 53 (.bool false) rfl (by rfl) (by kernel_rfl) (by decide) (by kernel_rfl) (by kernel_rfl) (by kernel_rfl) (fun _ _ _ h => h) (Or.inl ⟨by rfl, fun w' hSw => by obtain ⟨s0, s1, s2, s3, s4, s5⟩ := hSw; go_simp⟩) hS ?_
          simp only [List.setIfInBounds_toArray, List.set_cons_zero, List.set_cons_succ]
          refine take_T 9 54 (.bool false) rfl (by rfl) (by kernel_rfl) (by decide) (by kernel_rfl) (by kernel_rfl) (by kernel_rfl) (fun _ _ _ h => h) (Or.inl ⟨by rfl, fun w' hSw => by obtain ⟨s0, s1, s2, s3, s4, s5⟩ := hSw; go_simp⟩) hS ?_
          simp only [List.setIfInBounds_toArray, List.set_cons_zero, List.set_cons_succ]
          refine only_T 10 rfl (by kernel_rfl) (by decide) (by rfl) (fun K hK => ?_)
          refine wp_store_row 31 (.tmp 2) (.tmp 45) rfl w.heap.size #[.int .u8 kd, zS, zS, v1] rfl rfl 31 #[.int .u8 0, zS, zS, zS] HS9.out.res (by kernel_rfl) rfl HONE.out ?_
          obtain ⟨hown, hrow9⟩ := HS9.out.out HND.out
          have HOWN := Lib.hid hown
          have HROW9 := Lib.hid hrow9
          have hS2 : (w9.setRow w.heap.size #[.int .u8 kd, zS, zS, v1]).cell? ⟨N, 0, none⟩ = some (.int .u8 kd) ∧ (w9.setRow w.heap.size #[.int .u8 kd, zS, zS, v1]).cell? ⟨N, 1, none⟩ = some (zS) ∧ (w9.setRow w.heap.size #[.int .u8 kd, zS, zS, v1]).cell? ⟨N, 2, none⟩ = some (zS) ∧ (w9.setRow w.heap.size #[.int .u8 kd, zS, zS, v1]).cell? ⟨N, 3, none⟩ = some (v1) ∧ (w9.setRow w.heap.size #[.int .u8 kd, zS, zS, v1]).cell? ⟨q, 0, none⟩ = some (.string (bs l)) ∧ (w9.setRow w.heap.size #[.int .u8 kd, zS, zS, v1]).cell? ⟨q, 1, none⟩ = some (.bool false) := by
            have hs := grown_setRow w9 w.heap.size #[.int .u8 kd, zS, zS, v1]
            have rN := (hs.block N (row_lt HS9.out.row) (fun e => Nat.ne_of_lt HS9.out.n1 (Option.some.inj e).symm)).trans HS9.out.row
            have rq := (hs.block q HS9.out.tk.lt (fun e => Nat.ne_of_lt HS9.out.q1 (Option.some.inj e).symm)).trans HS9.out.tk
            exact ⟨cell_of_row _ _ 0 _ _ _ rN, cell_of_row _ _ 1 _ _ _ rN, cell_of_row _ _ 2 _ _ _ rN, cell_of_row _ _ 3 _ _ _ rN, cell_of_row _ _ 0 _ _ _ rq, cell_of_row _ _ 1 _ _ _ rq⟩
          refine hK.out _ _ hS2 ?_
          clear hK K
          try simp only [Act.put, List.setIfInBounds_toArray, List.set_cons_zero, List.set_cons_succ]
          clear hS hS2 hown hrow9
          generalize World.setRow _ _ _ = wz at *
          refine done_T (by kernel_rfl) ?_
          simp only [List.drop_succ_cons, List.drop_zero]
          go_wp2_with fail
          rw [Exit.noGoto_ret]
          refine bodyPost_ret (v := .tuple #[.agg #[.int .u8 kd, zS, zS, v1], .bool false]) (results_row2 rfl _ _ w.heap.size 31 #[.int .u8 kd, zS, zS, v1] (0, 0) _ rfl HROW9.out Tryz.underlying31 rfl (by kernel_rfl) _ rfl) rfl ?_
          exact ⟨_, by rw [HR2.out], HOWN.out⟩
      · go_wp2_with fail
        clear hlt hi
        have HR2 := Lib.hid (show (tkN s.data.toList).2 = false by rw [HT.out, HDN.out]; rfl)
        have HND := Lib.hid (show (tkN s.data.toList).1 = ⟨kd, [], [], D⟩ by rw [HT.out, HDN.out])
        have HSF := Lib.hid (HSX.out)
        have HKP := Lib.hid (show ∀ w' : World, TkStV w q N kd (v1) D l true w' → w'.cell? ⟨N, 0, none⟩ = some (.int .u8 kd) ∧ w'.cell? ⟨N, 1, none⟩ = some (zS) ∧ w'.cell? ⟨N, 2, none⟩ = some (zS) ∧ w'.cell? ⟨N, 3, none⟩ = some (v1) ∧ w'.cell? ⟨q, 0, none⟩ = some (.string (bs l)) ∧ w'.cell? ⟨q, 1, none⟩ = some (.bool true) from fun w' h => ⟨cell_of_row _ _ 0 _ _ _ h.row, cell_of_row _ _ 1 _ _ _ h.row, cell_of_row _ _ 2 _ _ _ h.row, cell_of_row _ _ 3 _ _ _ h.row, h.tk.c0, h.tk.c1⟩)
        refine wp_region_T (fun w' : World => w'.cell? ⟨N, 0, none⟩ = some (.int .u8 kd) ∧ w'.cell? ⟨N, 1, none⟩ = some (zS) ∧ w'.cell? ⟨N, 2, none⟩ = some (zS) ∧ w'.cell? ⟨N, 3, none⟩ = some (v1) ∧ w'.cell? ⟨q, 0, none⟩ = some (.string (bs l)) ∧ w'.cell? ⟨q, 1, none⟩ = some (.bool true)) 11 (by kernel_rfl) (by kernel_rfl) ?_
        have hS := HKP.out wr.drew (HSF.out.below (Below.refl _ _).drew)
        refine take_T 0 45 (.agg #[.int .u8 kd, zS, zS, v1]) rfl (by rfl) (by kernel_rfl) (by decide) (by kernel_rfl) (by kernel_rfl) (by kernel_rfl) (fun _ _ _ h => h) (Or.inl ⟨by rfl, fun w' hSw => by obtain ⟨s0, s1, s2, s3, s4, s5⟩ := hSw; go_simp⟩) hS ?_
        simp only [List.setIfInBounds_toArray, List.set_cons_zero, List.set_cons_succ]
        refine take_T 1 46 (.pointer (some ⟨q, 1, none⟩)) rfl (by rfl) (by kernel_rfl) (by decide) (by kernel_rfl) (by kernel_rfl) (by kernel_rfl) (fun _ _ _ h => h) (Or.inl ⟨by rfl, fun w' hSw => by obtain ⟨s0, s1, s2, s3, s4, s5⟩ := hSw; go_simp⟩) hS ?_
        simp only [List.setIfInBounds_toArray, List.set_cons_zero, List.set_cons_succ]
        refine take_T 2 47 (.bool true) rfl (by rfl) (by kernel_rfl) (by decide) (by kernel_rfl) (by kernel_rfl) (by kernel_rfl) (fun _ _ _ h => h) (Or.inl ⟨by rfl, fun w' hSw => by obtain ⟨s0, s1, s2, s3, s4, s5⟩ := hSw; go_simp⟩) hS ?_
        simp only [List.setIfInBounds_toArray, List.set_cons_zero, List.set_cons_succ]
        refine take_T 3 48 (.bool false) rfl (by rfl) (by kernel_rfl) (by decide) (by kernel_rfl) (by kernel_rfl) (by kernel_rfl) (fun _ _ _ h => h) (Or.inl ⟨by rfl, fun w' hSw => by obtain ⟨s0, s1, s2, s3, s4, s5⟩ := hSw; go_simp⟩) hS ?_
        simp only [List.setIfInBounds_toArray, List.set_cons_zero, List.set_cons_succ]
        refine take_T 4 49 (.bool false) rfl (by rfl) (by kernel_rfl) (by decide) (by kernel_rfl) (by kernel_rfl) (by kernel_rfl) (fun _ _ _ h => h) (Or.inl ⟨by rfl, fun w' hSw => by obtain ⟨s0, s1, s2, s3, s4, s5⟩ := hSw; go_simp⟩) hS ?_
        simp only [List.setIfInBounds_toArray, List.set_cons_zero, List.set_cons_succ]
        refine take_T 5 50 undef rfl (by rfl) (by kernel_rfl) (by decide) (by kernel_rfl) (by kernel_rfl) (by kernel_rfl) (fun _ _ _ h => h) (Or.inr ⟨by rfl, rfl⟩) hS ?_
        simp only [List.setIfInBounds_toArray, List.set_cons_zero, List.set_cons_succ]
        refine take_T 6 51 undef rfl (by rfl) (by kernel_rfl) (by decide) (by kernel_rfl) (by kernel_rfl) (by kernel_rfl) (fun _ _ _ h => h) (Or.inr ⟨by rfl, rfl⟩) hS ?_
        simp only [List.setIfInBounds_toArray, List.set_cons_zero, List.set_cons_succ]
        refine take_T 7 52 undef rfl (by rfl) (by kernel_rfl) (by decide) (by kernel_rfl) (by kernel_rfl) (by kernel_rfl) (fun _ _ _ h => h) (Or.inr ⟨by rfl, rfl⟩) hS ?_
        simp only [List.setIfInBounds_toArray, List.set_cons_zero, List.set_cons_succ]
        refine take_T 8 53 undef rfl (by rfl) (by kernel_rfl) (by decide) (by kernel_rfl) (by kernel_rfl) (by kernel_rfl) (fun _ _ _ h => h) (Or.inr ⟨by rfl, rfl⟩) hS ?_
        simp only [List.setIfInBounds_toArray, List.set_cons_zero, List.set_cons_succ]
        refine take_T 9 54 (.bool false) rfl (by rfl) (by kernel_rfl) (by decide) (by kernel_rfl) (by kernel_rfl) (by kernel_rfl) (fun _ _ _ h => h) (Or.inl ⟨by rfl, fun w' hSw => by obtain ⟨s0, s1, s2, s3, s4, s5⟩ := hSw; go_simp⟩) hS ?_
        simp only [List.setIfInBounds_toArray, List.set_cons_zero, List.set_cons_succ]
        have HS9 := Lib.hid (show TkStV w q N kd (v1) D l true wr.drew from HSF.out.below (Below.refl _ _).drew)
        refine only_T 10 rfl (by kernel_rfl) (by decide) (by rfl) (fun K hK => ?_)
        refine wp_store_row 31 (.tmp 2) (.tmp 45) rfl w.heap.size #[.int .u8 kd, zS, zS, v1] rfl rfl 31 #[.int .u8 0, zS, zS, zS] HS9.out.res (by kernel_rfl) rfl HONE.out ?_
        obtain ⟨hown, hrow9⟩ := HS9.out.out HND.out
        have HOWN := Lib.hid hown
        have HROW9 := Lib.hid hrow9
        have hS2 : (wr.drew.setRow w.heap.size #[.int .u8 kd, zS, zS, v1]).cell? ⟨N, 0, none⟩ = some (.int .u8 kd) ∧ (wr.drew.setRow w.heap.size #[.int .u8 kd, zS, zS, v1]).cell? ⟨N, 1, none⟩ = some (zS) ∧ (wr.drew.setRow w.heap.size #[.int .u8 kd, zS, zS, v1]).cell? ⟨N, 2, none⟩ = some (zS) ∧ (wr.drew.setRow w.heap.size #[.int .u8 kd, zS, zS, v1]).cell? ⟨N, 3, none⟩ = some (v1) ∧ (wr.drew.setRow w.heap.size #[.int .u8 kd, zS, zS, v1]).cell? ⟨q, 0, none⟩ = some (.string (bs l)) ∧ (wr.drew.setRow w.heap.size #[.int .u8 kd, zS, zS, v1]).cell? ⟨q, 1, none⟩ = some (.bool true) := by
          have hs := grown_setRow wr.drew w.heap.size #[.int .u8 kd, zS, zS, v1]
          have rN := (hs.block N (row_lt HS9.out.row) (fun e => Nat.ne_of_lt HS9.out.n1 (Option.some.inj e).symm)).trans HS9.out.row
          have rq := (hs.block q HS9.out.tk.lt (fun e => Nat.ne_of_lt HS9.out.q1 (Option.some.inj e).symm)).trans HS9.out.tk
          exact ⟨cell_of_row _ _ 0 _ _ _ rN, cell_of_row _ _ 1 _ _ _ rN, cell_of_row _ _ 2 _ _ _ rN, cell_of_row _ _ 3 _ _ _ rN, cell_of_row _ _ 0 _ _ _ rq, cell_of_row _ _ 1 _ _ _ rq⟩
        refine hK.out _ _ hS2 ?_
        clear hK K
        try simp only [Act.put, List.setIfInBounds_toArray, List.set_cons_zero, List.set_cons_succ]
        clear hS hS2 hown hrow9
        generalize World.setRow _ _ _ = wz at *
        refine done_T (by kernel_rfl) ?_
        simp only [List.drop_succ_cons, List.drop_zero]
        go_wp2_with fail
        rw [Exit.noGoto_ret]
        refine bodyPost_ret (v := .tuple #[.agg #[.int .u8 kd, zS, zS, v1], .bool false]) (results_row2 rfl _ _ w.heap.size 31 #[.int .u8 kd, zS, zS, v1] (0, 0) _ rfl HROW9.out Tryz.underlying31 rfl (by kernel_rfl) _ rfl) rfl ?_
        exact ⟨_, by rw [HR2.out], HOWN.out⟩
set_option maxRecDepth 100000 in
set_option maxHeartbeats 8000000 in
theorem takenZ (s : ByteArray) (h4 : s.size ≤ maxLen) (hkd : (tkNum 1 (s.data.toList, false)).1 ≠ 1 ∧ (tkNum 1 (s.data.toList, false)).1 ≠ 2 ∧ (tkNum 1 (s.data.toList, false)).1 ≠ 3) (w : World) : Calls Tryz.prog 121 #[.string s] w (TkPost s.data.toList w) := by
  obtain ⟨kd, ⟨l1, b1⟩, e1⟩ : ∃ V s2, tkNum 1 (s.data.toList, false) = (V, s2) := ⟨_, _, rfl⟩
  obtain ⟨c, ⟨l2, b2⟩, e2⟩ : ∃ V s2, tkNum 1 (l1, b1) = (V, s2) := ⟨_, _, rfl⟩
  have hkd8 := num_byte (s.data.toList, false)
  have hc8 := num_byte (l1, b1)
  have hl1 := num_less 1 (s.data.toList, false)
  have hl2 := num_less 1 (l1, b1)
  rw [e1] at hkd8 hl1
  rw [e2] at hc8 hl2
  dsimp only at hkd8 hl1 hc8 hl2
  have hm1 : (bs l1).size ≤ maxLen := bs_le (s := s) hl1 h4
  have hm2 : (bs l2).size ≤ maxLen := bs_le (s := bs l1) hl2 hm1
  have HC1 := Lib.hid (show ∀ w q, TkR w q s false → Calls Tryz.prog 150 #[.pointer (some ⟨q, 0, none⟩), .int .i64 1] w fun e w' => e = .returned (.int .u64 (kd : Nat)) ∧ TkR w' q (bs l1) b1 ∧ w.grownBy w' (some q) from fun w q h => by
    have c := number_tk h 1 (by omega) (by omega) h4
    rw [e1] at c
    exact c)
  have HC2 := Lib.hid (show ∀ w q, TkR w q (bs l1) b1 → Calls Tryz.prog 150 #[.pointer (some ⟨q, 0, none⟩), .int .i64 1] w fun e w' => e = .returned (.int .u64 (c : Nat)) ∧ TkR w' q (bs l2) b2 ∧ w.grownBy w' (some q) from fun w q h => by
    have c := number_tk h 1 (by omega) (by omega) hm1
    rw [bs_data, e2] at c
    exact c)
  rw [e1] at hkd
  dsimp only at hkd
  have HT := Lib.hid (show tkN s.data.toList = (⟨kd, [], [], []⟩, !b2 && allz l2) by
    unfold tkN
    rw [e1]
    dsimp only
    rw [e2]
    dsimp only
    rw [if_neg hkd.1, if_neg hkd.2.1, if_neg hkd.2.2])
  have HM2 := Lib.hid hm2
  have HKD := Lib.hid hkd
  have eu : IntKind.u8.wrap (kd : Int) = (kd : Int) := IntWalk.u8_in _ (by omega)
  obtain ⟨R1, R2, S0, Z0⟩ := two_new w #[.int .u8 0, zS, zS, zS] #[.string s, .bool false] 31 203
  have HR1 := Lib.hid R1
  have HT2 := Lib.hid (show TkR _ (w.heap.size + 1) s false from R2)
  have HS0 := Lib.hid S0
  clear R1 R2 S0 Z0 hm1 hm2 hl1 hl2 hkd e1 e2 h4
  go_enter Tryz.func121, Tryz.ntmps121
  go_wp2_with fail
  go_step3
  go_wp2_with fail
  generalize (w.alloc _).alloc _ = W2 at *
  go_at_call 150
  refine (HC1.out _ _ HT2.out).mono ?_
  rintro e w3 ⟨rfl, ht, hg⟩
  have HT3 := Lib.hid ht
  have HR3 := Lib.hid ((hg.block w.heap.size (row_lt HR1.out) (fun e => by have := Option.some.inj e; omega)).trans HR1.out)
  have HB3 := Lib.hid (HS0.out.grown hg HS0.out.size (fun k hk => by cases hk; exact Nat.le_succ _))
  clear ht hg HT2 HR1 HS0
  go_wp2_with fail
  have hal : Below w3.heap.size w3 (w3.alloc (.cells #[.int .u8 kd, zS, zS, zS] 31)) := (Below.refl _ _).alloc (Nat.le_refl _) _
  have HN4 := Lib.hid (heap_alloc_new w3 (.cells #[.int .u8 kd, zS, zS, zS] 31))
  have HT4 := Lib.hid (HT3.out.below hal)
  have HR4 := Lib.hid ((hal.block w.heap.size (row_lt HR3.out)).trans HR3.out)
  have HB4 := Lib.hid (HB3.out.trans (hal.mono HB3.out.size))
  have HN1 := Lib.hid (show w.heap.size < w3.heap.size from row_lt HR3.out)
  have HQN := Lib.hid (show w.heap.size + 1 ≠ w3.heap.size from Nat.ne_of_lt HT3.out.lt)
  have HQ1 := Lib.hid (show w.heap.size < w.heap.size + 1 from Nat.lt_succ_self _)
  have HS4 := Lib.hid (show TkStI w (w.heap.size + 1) w3.heap.size kd zS [] l1 b1 (w3.alloc (.cells #[.int .u8 kd, zS, zS, zS] 31)) from ⟨HT4.out, HN4.out, HR4.out, Mk.nil HB4.out, HQ1.out, HN1.out, HQN.out⟩)
  clear hal HN4 HT3 HR3 HB3 HR4 HB4 HN1 HQN HQ1
  generalize w3.alloc _ = w4 at *
  generalize w3.heap.size = N at *
  go_at_call 150
  refine (HC2.out _ _ HT4.out).mono ?_
  rintro e w5 ⟨rfl, ht, hg⟩
  have HS5 := Lib.hid (HS4.out.took ht hg)
  clear ht hg HS4 HT4 HC1 HC2
  generalize hq : w.heap.size + 1 = q at *
  clear hq
  go_wp2_with fail
  go_step3
  go_wp2_with fail
  go_loopw [14] (fun iv wr => iv = .int .u64 0 ∧ Hid (TkStI w q N kd zS [] l2 b2 wr)) (fun iv _ => 0)
  case atStart => exact ⟨rfl, HS5.out⟩
  case round =>
    obtain ⟨rfl, hst⟩ := hrel
    by_cases hc0 : 0 < c
    · have HSX := Lib.hid (Hid.out hst)
      clear hst
      have HONE := Lib.hid (show (#[.int .u8 kd, zS, zS, zS] : Array Value).all (·.oneCell') = true from four_cells _ _ _ _ rfl rfl rfl rfl)
      have HLE := HM2
      have k0 : wr.cell? ⟨N, 0, none⟩ = some (.int .u8 kd) := cell_of_row _ _ 0 _ _ _ HSX.out.row
      have q1 : ((kd : Int) == 1) = false := by rw [beq_eq_false_iff_ne]; have := HKD.out; omega
      have q2 : ((kd : Int) == 2) = false := by rw [beq_eq_false_iff_ne]; have := HKD.out; omega
      have q3 : ((kd : Int) == 3) = false := by rw [beq_eq_false_iff_ne]; have := HKD.out; omega
      cases b2
      · go_wp2_with fail
        have HTR := Lib.hid (show ∀ w', Calls Tryz.prog 154 #[.string (bs l2), .string ⟨#[0]⟩] w' fun e w2 => e = .returned (.string (bs (Lib.trimB l2 0))) ∧ (w2 = w' ∨ w2 = w'.drew) from fun w' => Tryz.strings_Trim_one (bs l2) 0 (by decide) w' (by have := HLE.out; unfold maxLen at this; omega))
        have HND := Lib.hid (show (tkN s.data.toList).1 = ⟨kd, [], [], []⟩ by rw [HT.out])
        by_cases hz : allz l2 = true
        · have HR2 := Lib.hid (show (tkN s.data.toList).2 = true by rw [HT.out]; show (!false && allz l2) = true; rw [hz]; rfl)
          have hz1 : (bs (Lib.trimB l2 0)).toList = [] := str_nil (by rw [bs_size, (trimB_nil l2).2 hz]; rfl)
          have hz2 : (bs (Lib.trimB l2 0)).toList.isEmpty = true := by rw [hz1]; rfl
          clear hz
          have HSF := Lib.hid (HSX.out)
          have HKP := Lib.hid (show ∀ w' : World, TkStI w q N kd (zS) [] l2 false w' → w'.cell? ⟨N, 0, none⟩ = some (.int .u8 kd) ∧ w'.cell? ⟨N, 1, none⟩ = some (zS) ∧ w'.cell? ⟨N, 2, none⟩ = some (zS) ∧ w'.cell? ⟨N, 3, none⟩ = some (zS) ∧ w'.cell? ⟨q, 0, none⟩ = some (.string (bs l2)) ∧ w'.cell? ⟨q, 1, none⟩ = some (.bool false) from fun w' h => ⟨cell_of_row _ _ 0 _ _ _ h.row, cell_of_row _ _ 1 _ _ _ h.row, cell_of_row _ _ 2 _ _ _ h.row, cell_of_row _ _ 3 _ _ _ h.row, h.tk.c0, h.tk.c1⟩)
          refine wp_region_T (fun w' : World => w'.cell? ⟨N, 0, none⟩ = some (.int .u8 kd) ∧ w'.cell? ⟨N, 1, none⟩ = some (zS) ∧ w'.cell? ⟨N, 2, none⟩ = some (zS) ∧ w'.cell? ⟨N, 3, none⟩ = some (zS) ∧ w'.cell? ⟨q, 0, none⟩ = some (.string (bs l2)) ∧ w'.cell? ⟨q, 1, none⟩ = some (.bool false)) 11 (by kernel_rfl) (by kernel_rfl) ?_
          have hS := HKP.out wr.drew (HSF.out.below (Below.refl _ _).drew)
          refine take_T 0 45 (.agg #[.int .u8 kd, zS, zS, zS]) rfl (by rfl) (by kernel_rfl) (by decide) (by kernel_rfl) (by kernel_rfl) (by kernel_rfl) (fun _ _ _ h => h) (Or.inl ⟨by rfl, fun w' hSw => by obtain ⟨s0, s1, s2, s3, s4, s5⟩ := hSw; go_simp⟩) hS ?_
          simp only [List.setIfInBounds_toArray, List.set_cons_zero, List.set_cons_succ]
          refine take_T 1 46 (.pointer (some ⟨q, 1, none⟩)) rfl (by rfl) (by kernel_rfl) (by decide) (by kernel_rfl) (by kernel_rfl) (by kernel_rfl) (fun _ _ _ h => h) (Or.inl ⟨by rfl, fun w' hSw => by obtain ⟨s0, s1, s2, s3, s4, s5⟩ := hSw; go_simp⟩) hS ?_
          simp only [List.setIfInBounds_toArray, List.set_cons_zero, List.set_cons_succ]
          refine take_T 2 47 (.bool false) rfl (by rfl) (by kernel_rfl) (by decide) (by kernel_rfl) (by kernel_rfl) (by kernel_rfl) (fun _ _ _ h => h) (Or.inl ⟨by rfl, fun w' hSw => by obtain ⟨s0, s1, s2, s3, s4, s5⟩ := hSw; go_simp⟩) hS ?_
          simp only [List.setIfInBounds_toArray, List.set_cons_zero, List.set_cons_succ]
          refine take_T 3 48 (.bool true) rfl (by rfl) (by kernel_rfl) (by decide) (by kernel_rfl) (by kernel_rfl) (by kernel_rfl) (fun _ _ _ h => h) (Or.inl ⟨by rfl, fun w' hSw => by obtain ⟨s0, s1, s2, s3, s4, s5⟩ := hSw; go_simp⟩) hS ?_
          simp only [List.setIfInBounds_toArray, List.set_cons_zero, List.set_cons_succ]
          refine take_T 4 49 (.bool true) rfl (by rfl) (by kernel_rfl) (by decide) (by kernel_rfl) (by kernel_rfl) (by kernel_rfl) (fun _ _ _ h => h) (Or.inl ⟨by rfl, fun w' hSw => by obtain ⟨s0, s1, s2, s3, s4, s5⟩ := hSw; go_simp⟩) hS ?_
          simp only [List.setIfInBounds_toArray, List.set_cons_zero, List.set_cons_succ]
          refine take_T 5 50 (.pointer (some ⟨q, 0, none⟩)) rfl (by rfl) (by kernel_rfl) (by decide) (by kernel_rfl) (by kernel_rfl) (by kernel_rfl) (fun _ _ _ h => h) (Or.inl ⟨by rfl, fun w' hSw => by obtain ⟨s0, s1, s2, s3, s4, s5⟩ := hSw; go_simp⟩) hS ?_
          simp only [List.setIfInBounds_toArray, List.set_cons_zero, List.set_cons_succ]
          refine take_T 6 51 (.string (bs l2)) rfl (by rfl) (by kernel_rfl) (by decide) (by kernel_rfl) (by kernel_rfl) (by kernel_rfl) (fun _ _ _ h => h) (Or.inl ⟨by rfl, fun w' hSw => by obtain ⟨s0, s1, s2, s3, s4, s5⟩ := hSw; go_simp⟩) hS ?_
          simp only [List.setIfInBounds_toArray, List.set_cons_zero, List.set_cons_succ]
          refine only_T 7 rfl (by kernel_rfl) (by decide) (by rfl) (fun K hK => ?_)
          go_wp2_with fail
          go_at_call 154
          refine (HTR.out _).mono ?_
          rintro e w9 ⟨rfl, hw9⟩
          have HS9 := Lib.hid (show TkStI w q N kd (zS) [] l2 false w9 from by
            rcases hw9 with rfl | rfl
            · exact HSF.out.below (Below.refl _ _).drew
            · exact (HSF.out.below (Below.refl _ _).drew).below (Below.refl _ _).drew)
          clear hw9
          have hS2 := HKP.out _ HS9.out
          refine hK.out _ _ hS2 ?_
          clear hK K
          try simp only [Act.put, List.setIfInBounds_toArray, List.set_cons_zero, List.set_cons_succ]
          clear hS
          have hS := hS2
          clear hS2
          refine take_T 8 53 (.bool true) rfl (by rfl) (by kernel_rfl) (by decide) (by kernel_rfl) (by kernel_rfl) (by kernel_rfl) (fun _ _ _ h => h) (Or.inl ⟨by rfl, fun w' hSw => by obtain ⟨s0, s1, s2, s3, s4, s5⟩ := hSw; go_simp⟩) hS ?_
          simp only [List.setIfInBounds_toArray, List.set_cons_zero, List.set_cons_succ]
          refine take_T 9 54 (.bool true) rfl (by rfl) (by kernel_rfl) (by decide) (by kernel_rfl) (by kernel_rfl) (by kernel_rfl) (fun _ _ _ h => h) (Or.inl ⟨by rfl, fun w' hSw => by obtain ⟨s0, s1, s2, s3, s4, s5⟩ := hSw; go_simp⟩) hS ?_
          simp only [List.setIfInBounds_toArray, List.set_cons_zero, List.set_cons_succ]
          refine only_T 10 rfl (by kernel_rfl) (by decide) (by rfl) (fun K hK => ?_)
          refine wp_store_row 31 (.tmp 2) (.tmp 45) rfl w.heap.size #[.int .u8 kd, zS, zS, zS] rfl rfl 31 #[.int .u8 0, zS, zS, zS] HS9.out.res (by kernel_rfl) rfl HONE.out ?_
          obtain ⟨hown, hrow9⟩ := HS9.out.out HND.out
          have HOWN := Lib.hid hown
          have HROW9 := Lib.hid hrow9
          have hS2 : (w9.setRow w.heap.size #[.int .u8 kd, zS, zS, zS]).cell? ⟨N, 0, none⟩ = some (.int .u8 kd) ∧ (w9.setRow w.heap.size #[.int .u8 kd, zS, zS, zS]).cell? ⟨N, 1, none⟩ = some (zS) ∧ (w9.setRow w.heap.size #[.int .u8 kd, zS, zS, zS]).cell? ⟨N, 2, none⟩ = some (zS) ∧ (w9.setRow w.heap.size #[.int .u8 kd, zS, zS, zS]).cell? ⟨N, 3, none⟩ = some (zS) ∧ (w9.setRow w.heap.size #[.int .u8 kd, zS, zS, zS]).cell? ⟨q, 0, none⟩ = some (.string (bs l2)) ∧ (w9.setRow w.heap.size #[.int .u8 kd, zS, zS, zS]).cell? ⟨q, 1, none⟩ = some (.bool false) := by
            have hs := grown_setRow w9 w.heap.size #[.int .u8 kd, zS, zS, zS]
            have rN := (hs.block N (row_lt HS9.out.row) (fun e => Nat.ne_of_lt HS9.out.n1 (Option.some.inj e).symm)).trans HS9.out.row
            have rq := (hs.block q HS9.out.tk.lt (fun e => Nat.ne_of_lt HS9.out.q1 (Option.some.inj e).symm)).trans HS9.out.tk
            exact ⟨cell_of_row _ _ 0 _ _ _ rN, cell_of_row _ _ 1 _ _ _ rN, cell_of_row _ _ 2 _ _ _ rN, cell_of_row _ _ 3 _ _ _ rN, cell_of_row _ _ 0 _ _ _ rq, cell_of_row _ _ 1 _ _ _ rq⟩
          refine hK.out _ _ hS2 ?_
          clear hK K
          try simp only [Act.put, List.setIfInBounds_toArray, List.set_cons_zero, List.set_cons_succ]
          clear hS hS2 hown hrow9
          generalize World.setRow _ _ _ = wz at *
          refine done_T (by kernel_rfl) ?_
          simp only [List.drop_succ_cons, List.drop_zero]
          go_wp2_with fail
          rw [Exit.noGoto_ret]
          refine bodyPost_ret (v := .tuple #[.agg #[.int .u8 kd, zS, zS, zS], .bool true]) (results_row2 rfl _ _ w.heap.size 31 #[.int .u8 kd, zS, zS, zS] (0, 0) _ rfl HROW9.out Tryz.underlying31 rfl (by kernel_rfl) _ rfl) rfl ?_
          exact ⟨_, by rw [HR2.out], HOWN.out⟩
        · have hz0 : (bs (Lib.trimB l2 0)).size ≠ 0 := by
            rw [bs_size]; intro h; exact hz ((trimB_nil l2).1 (List.eq_nil_of_length_eq_zero h))
          have HR2 := Lib.hid (show (tkN s.data.toList).2 = false by rw [HT.out]; show (!false && allz l2) = false; rw [Bool.eq_false_iff.2 hz]; rfl)
          have hz1 := str_empty hz0
          have hz2 := str_nonil hz0
          clear hz hz0
          have HSF := Lib.hid (HSX.out)
          have HKP := Lib.hid (show ∀ w' : World, TkStI w q N kd (zS) [] l2 false w' → w'.cell? ⟨N, 0, none⟩ = some (.int .u8 kd) ∧ w'.cell? ⟨N, 1, none⟩ = some (zS) ∧ w'.cell? ⟨N, 2, none⟩ = some (zS) ∧ w'.cell? ⟨N, 3, none⟩ = some (zS) ∧ w'.cell? ⟨q, 0, none⟩ = some (.string (bs l2)) ∧ w'.cell? ⟨q, 1, none⟩ = some (.bool false) from fun w' h => ⟨cell_of_row _ _ 0 _ _ _ h.row, cell_of_row _ _ 1 _ _ _ h.row, cell_of_row _ _ 2 _ _ _ h.row, cell_of_row _ _ 3 _ _ _ h.row, h.tk.c0, h.tk.c1⟩)
          refine wp_region_T (fun w' : World => w'.cell? ⟨N, 0, none⟩ = some (.int .u8 kd) ∧ w'.cell? ⟨N, 1, none⟩ = some (zS) ∧ w'.cell? ⟨N, 2, none⟩ = some (zS) ∧ w'.cell? ⟨N, 3, none⟩ = some (zS) ∧ w'.cell? ⟨q, 0, none⟩ = some (.string (bs l2)) ∧ w'.cell? ⟨q, 1, none⟩ = some (.bool false)) 11 (by kernel_rfl) (by kernel_rfl) ?_
          have hS := HKP.out wr.drew (HSF.out.below (Below.refl _ _).drew)
          refine take_T 0 45 (.agg #[.int .u8 kd, zS, zS, zS]) rfl (by rfl) (by kernel_rfl) (by decide) (by kernel_rfl) (by kernel_rfl) (by kernel_rfl) (fun _ _ _ h => h) (Or.inl ⟨by rfl, fun w' hSw => by obtain ⟨s0, s1, s2, s3, s4, s5⟩ := hSw; go_simp⟩) hS ?_
          simp only [List.setIfInBounds_toArray, List.set_cons_zero, List.set_cons_succ]
          refine take_T 1 46 (.pointer (some ⟨q, 1, none⟩)) rfl (by rfl) (by kernel_rfl) (by decide) (by kernel_rfl) (by kernel_rfl) (by kernel_rfl) (fun _ _ _ h => h) (Or.inl ⟨by rfl, fun w' hSw => by obtain ⟨s0, s1, s2, s3, s4, s5⟩ := hSw; go_simp⟩) hS ?_
          simp only [List.setIfInBounds_toArray, List.set_cons_zero, List.set_cons_succ]
          refine take_T 2 47 (.bool false) rfl (by rfl) (by kernel_rfl) (by decide) (by kernel_rfl) (by kernel_rfl) (by kernel_rfl) (fun _ _ _ h => h) (Or.inl ⟨by rfl, fun w' hSw => by obtain ⟨s0, s1, s2, s3, s4, s5⟩ := hSw; go_simp⟩) hS ?_
          simp only [List.setIfInBounds_toArray, List.set_cons_zero, List.set_cons_succ]
          refine take_T 3 48 (.bool true) rfl (by rfl) (by kernel_rfl) (by decide) (by kernel_rfl) (by kernel_rfl) (by kernel_rfl) (fun _ _ _ h => h) (Or.inl ⟨by rfl, fun w' hSw => by obtain ⟨s0, s1, s2, s3, s4, s5⟩ := hSw; go_simp⟩) hS ?_
          simp only [List.setIfInBounds_toArray, List.set_cons_zero, List.set_cons_succ]
          refine take_T 4 49 (.bool true) rfl (by rfl) (by kernel_rfl) (by decide) (by kernel_rfl) (by kernel_rfl) (by kernel_rfl) (fun _ _ _ h => h) (Or.inl ⟨by rfl, fun w' hSw => by obtain ⟨s0, s1, s2, s3, s4, s5⟩ := hSw; go_simp⟩) hS ?_
          simp only [List.setIfInBounds_toArray, List.set_cons_zero, List.set_cons_succ]
          refine take_T 5 50 (.pointer (some ⟨q, 0, none⟩)) rfl (by rfl) (by kernel_rfl) (by decide) (by kernel_rfl) (by kernel_rfl) (by kernel_rfl) (fun _ _ _ h => h) (Or.inl ⟨by rfl, fun w' hSw => by obtain ⟨s0, s1, s2, s3, s4, s5⟩ := hSw; go_simp⟩) hS ?_
          simp only [List.setIfInBounds_toArray, List.set_cons_zero, List.set_cons_succ]
          refine take_T 6 51 (.string (bs l2)) rfl (by rfl) (by kernel_rfl) (by decide) (by kernel_rfl) (by kernel_rfl) (by kernel_rfl) (fun _ _ _ h => h) (Or.inl ⟨by rfl, fun w' hSw => by obtain ⟨s0, s1, s2, s3, s4, s5⟩ := hSw; go_simp⟩) hS ?_
          simp only [List.setIfInBounds_toArray, List.set_cons_zero, List.set_cons_succ]
          refine only_T 7 rfl (by kernel_rfl) (by decide) (by rfl) (fun K hK => ?_)
          go_wp2_with fail
          go_at_call 154
          refine (HTR.out _).mono ?_
          rintro e w9 ⟨rfl, hw9⟩
          have HS9 := Lib.hid (show TkStI w q N kd (zS) [] l2 false w9 from by
            rcases hw9 with rfl | rfl
            · exact HSF.out.below (Below.refl _ _).drew
            · exact (HSF.out.below (Below.refl _ _).drew).below (Below.refl _ _).drew)
          clear hw9
          have hS2 := HKP.out _ HS9.out
          refine hK.out _ _ hS2 ?_
          clear hK K
          try simp only [Act.put, List.setIfInBounds_toArray, List.set_cons_zero, List.set_cons_succ]
          clear hS
          have hS := hS2
          clear hS2
          refine take_T 8 53 (.bool false) rfl (by rfl) (by kernel_rfl) (by decide) (by kernel_rfl) (by kernel_rfl) (by kernel_rfl) (fun _ _ _ h => h) (Or.inl ⟨by rfl, fun w' hSw => by obtain ⟨s0, s1, s2, s3, s4, s5⟩ := hSw; go_simp⟩) hS ?_
          simp only [List.setIfInBounds_toArray, List.set_cons_zero, List.set_cons_succ]
          refine take_T 9 54 (.bool false) rfl (by rfl) (by kernel_rfl) (by decide) (by kernel_rfl) (by kernel_rfl) (by kernel_rfl) (fun _ _ _ h => h) (Or.inl ⟨by rfl, fun w' hSw => by obtain ⟨s0, s1, s2, s3, s4, s5⟩ := hSw; go_simp⟩) hS ?_
          simp only [List.setIfInBounds_toArray, List.set_cons_zero, List.set_cons_succ]
          refine only_T 10 rfl (by kernel_rfl) (by decide) (by rfl) (fun K hK => ?_)
          refine wp_store_row 31 (.tmp 2) (.tmp 45) rfl w.heap.size #[.int .u8 kd, zS, zS, zS] rfl rfl 31 #[.int .u8 0, zS, zS, zS] HS9.out.res (by kernel_rfl) rfl HONE.out ?_
          obtain ⟨hown, hrow9⟩ := HS9.out.out HND.out
          have HOWN := Lib.hid hown
          have HROW9 := Lib.hid hrow9
          have hS2 : (w9.setRow w.heap.size #[.int .u8 kd, zS, zS, zS]).cell? ⟨N, 0, none⟩ = some (.int .u8 kd) ∧ (w9.setRow w.heap.size #[.int .u8 kd, zS, zS, zS]).cell? ⟨N, 1, none⟩ = some (zS) ∧ (w9.setRow w.heap.size #[.int .u8 kd, zS, zS, zS]).cell? ⟨N, 2, none⟩ = some (zS) ∧ (w9.setRow w.heap.size #[.int .u8 kd, zS, zS, zS]).cell? ⟨N, 3, none⟩ = some (zS) ∧ (w9.setRow w.heap.size #[.int .u8 kd, zS, zS, zS]).cell? ⟨q, 0, none⟩ = some (.string (bs l2)) ∧ (w9.setRow w.heap.size #[.int .u8 kd, zS, zS, zS]).cell? ⟨q, 1, none⟩ = some (.bool false) := by
            have hs := grown_setRow w9 w.heap.size #[.int .u8 kd, zS, zS, zS]
            have rN := (hs.block N (row_lt HS9.out.row) (fun e => Nat.ne_of_lt HS9.out.n1 (Option.some.inj e).symm)).trans HS9.out.row
            have rq := (hs.block q HS9.out.tk.lt (fun e => Nat.ne_of_lt HS9.out.q1 (Option.some.inj e).symm)).trans HS9.out.tk
            exact ⟨cell_of_row _ _ 0 _ _ _ rN, cell_of_row _ _ 1 _ _ _ rN, cell_of_row _ _ 2 _ _ _ rN, cell_of_row _ _ 3 _ _ _ rN, cell_of_row _ _ 0 _ _ _ rq, cell_of_row _ _ 1 _ _ _ rq⟩
          refine hK.out _ _ hS2 ?_
          clear hK K
          try simp only [Act.put, List.setIfInBounds_toArray, List.set_cons_zero, List.set_cons_succ]
          clear hS hS2 hown hrow9
          generalize World.setRow _ _ _ = wz at *
          refine done_T (by kernel_rfl) ?_
          simp only [List.drop_succ_cons, List.drop_zero]
          go_wp2_with fail
          rw [Exit.noGoto_ret]
          refine bodyPost_ret (v := .tuple #[.agg #[.int .u8 kd, zS, zS, zS], .bool false]) (results_row2 rfl _ _ w.heap.size 31 #[.int .u8 kd, zS, zS, zS] (0, 0) _ rfl HROW9.out Tryz.underlying31 rfl (by kernel_rfl) _ rfl) rfl ?_
          exact ⟨_, by rw [HR2.out], HOWN.out⟩
      · go_wp2_with fail
        have HR2 := Lib.hid (show (tkN s.data.toList).2 = false by rw [HT.out]; rfl)
        have HND := Lib.hid (show (tkN s.data.toList).1 = ⟨kd, [], [], []⟩ by rw [HT.out])
        have HSF := Lib.hid (HSX.out)
        have HKP := Lib.hid (show ∀ w' : World, TkStI w q N kd (zS) [] l2 true w' → w'.cell? ⟨N, 0, none⟩ = some (.int .u8 kd) ∧ w'.cell? ⟨N, 1, none⟩ = some (zS) ∧ w'.cell? ⟨N, 2, none⟩ = some (zS) ∧ w'.cell? ⟨N, 3, none⟩ = some (zS) ∧ w'.cell? ⟨q, 0, none⟩ = some (.string (bs l2)) ∧ w'.cell? ⟨q, 1, none⟩ = some (.bool true) from fun w' h => ⟨cell_of_row _ _ 0 _ _ _ h.row, cell_of_row _ _ 1 _ _ _ h.row, cell_of_row _ _ 2 _ _ _ h.row, cell_of_row _ _ 3 _ _ _ h.row, h.tk.c0, h.tk.c1⟩)
        refine wp_region_T (fun w' : World => w'.cell? ⟨N, 0, none⟩ = some (.int .u8 kd) ∧ w'.cell? ⟨N, 1, none⟩ = some (zS) ∧ w'.cell? ⟨N, 2, none⟩ = some (zS) ∧ w'.cell? ⟨N, 3, none⟩ = some (zS) ∧ w'.cell? ⟨q, 0, none⟩ = some (.string (bs l2)) ∧ w'.cell? ⟨q, 1, none⟩ = some (.bool true)) 11 (by kernel_rfl) (by kernel_rfl) ?_
        have hS := HKP.out wr.drew (HSF.out.below (Below.refl _ _).drew)
        refine take_T 0 45 (.agg #[.int .u8 kd, zS, zS, zS]) rfl (by rfl) (by kernel_rfl) (by decide) (by kernel_rfl) (by kernel_rfl) (by kernel_rfl) (fun _ _ _ h => h) (Or.inl ⟨by rfl, fun w' hSw => by obtain ⟨s0, s1, s2, s3, s4, s5⟩ := hSw; go_simp⟩) hS ?_
        simp only [List.setIfInBounds_toArray, List.set_cons_zero, List.set_cons_succ]
        refine take_T 1 46 (.pointer (some ⟨q, 1, none⟩)) rfl (by rfl) (by kernel_rfl) (by decide) (by kernel_rfl) (by kernel_rfl) (by kernel_rfl) (fun _ _ _ h => h) (Or.inl ⟨by rfl, fun w' hSw => by obtain ⟨s0, s1, s2, s3, s4, s5⟩ := hSw; go_simp⟩) hS ?_
        simp only [List.setIfInBounds_toArray, List.set_cons_zero, List.set_cons_succ]
        refine take_T 2 47 (.bool true) rfl (by rfl) (by kernel_rfl) (by decide) (by kernel_rfl) (by kernel_rfl) (by kernel_rfl) (fun _ _ _ h => h) (Or.inl ⟨by rfl, fun w' hSw => by obtain ⟨s0, s1, s2, s3, s4, s5⟩ := hSw; go_simp⟩) hS ?_
        simp only [List.setIfInBounds_toArray, List.set_cons_zero, List.set_cons_succ]
        refine take_T 3 48 (.bool false) rfl (by rfl) (by kernel_rfl) (by decide) (by kernel_rfl) (by kernel_rfl) (by kernel_rfl) (fun _ _ _ h => h) (Or.inl ⟨by rfl, fun w' hSw => by obtain ⟨s0, s1, s2, s3, s4, s5⟩ := hSw; go_simp⟩) hS ?_
        simp only [List.setIfInBounds_toArray, List.set_cons_zero, List.set_cons_succ]
        refine take_T 4 49 (.bool false) rfl (by rfl) (by kernel_rfl) (by decide) (by kernel_rfl) (by kernel_rfl) (by kernel_rfl) (fun _ _ _ h => h) (Or.inl ⟨by rfl, fun w' hSw => by obtain ⟨s0, s1, s2, s3, s4, s5⟩ := hSw; go_simp⟩) hS ?_
        simp only [List.setIfInBounds_toArray, List.set_cons_zero, List.set_cons_succ]
        refine take_T 5 50 undef rfl (by rfl) (by kernel_rfl) (by decide) (by kernel_rfl) (by kernel_rfl) (by kernel_rfl) (fun _ _ _ h => h) (Or.inr ⟨by rfl, rfl⟩) hS ?_
        simp only [List.setIfInBounds_toArray, List.set_cons_zero, List.set_cons_succ]
        refine take_T 6 51 undef rfl (by rfl) (by kernel_rfl) (by decide) (by kernel_rfl) (by kernel_rfl) (by kernel_rfl) (fun _ _ _ h => h) (Or.inr ⟨by rfl, rfl⟩) hS ?_
        simp only [List.setIfInBounds_toArray, List.set_cons_zero, List.set_cons_succ]
        refine take_T 7 52 undef rfl (by rfl) (by kernel_rfl) (by decide) (by kernel_rfl) (by kernel_rfl) (by kernel_rfl) (fun _ _ _ h => h) (Or.inr ⟨by rfl, rfl⟩) hS ?_
        simp only [List.setIfInBounds_toArray, List.set_cons_zero, List.set_cons_succ]
        refine take_T 8 53 undef rfl (by rfl) (by kernel_rfl) (by decide) (by kernel_rfl) (by kernel_rfl) (by kernel_rfl) (fun _ _ _ h => h) (Or.inr ⟨by rfl, rfl⟩) hS ?_
        simp only [List.setIfInBounds_toArray, List.set_cons_zero, List.set_cons_succ]
        refine take_T 9 54 (.bool false) rfl (by rfl) (by kernel_rfl) (by decide) (by kernel_rfl) (by kernel_rfl) (by kernel_rfl) (fun _ _ _ h => h) (Or.inl ⟨by rfl, fun w' hSw => by obtain ⟨s0, s1, s2, s3, s4, s5⟩ := hSw; go_simp⟩) hS ?_
        simp only [List.setIfInBounds_toArray, List.set_cons_zero, List.set_cons_succ]
        have HS9 := Lib.hid (show TkStI w q N kd (zS) [] l2 true wr.drew from HSF.out.below (Below.refl _ _).drew)
        refine only_T 10 rfl (by kernel_rfl) (by decide) (by rfl) (fun K hK => ?_)
        refine wp_store_row 31 (.tmp 2) (.tmp 45) rfl w.heap.size #[.int .u8 kd, zS, zS, zS] rfl rfl 31 #[.int .u8 0, zS, zS, zS] HS9.out.res (by kernel_rfl) rfl HONE.out ?_
        obtain ⟨hown, hrow9⟩ := HS9.out.out HND.out
        have HOWN := Lib.hid hown
        have HROW9 := Lib.hid hrow9
        have hS2 : (wr.drew.setRow w.heap.size #[.int .u8 kd, zS, zS, zS]).cell? ⟨N, 0, none⟩ = some (.int .u8 kd) ∧ (wr.drew.setRow w.heap.size #[.int .u8 kd, zS, zS, zS]).cell? ⟨N, 1, none⟩ = some (zS) ∧ (wr.drew.setRow w.heap.size #[.int .u8 kd, zS, zS, zS]).cell? ⟨N, 2, none⟩ = some (zS) ∧ (wr.drew.setRow w.heap.size #[.int .u8 kd, zS, zS, zS]).cell? ⟨N, 3, none⟩ = some (zS) ∧ (wr.drew.setRow w.heap.size #[.int .u8 kd, zS, zS, zS]).cell? ⟨q, 0, none⟩ = some (.string (bs l2)) ∧ (wr.drew.setRow w.heap.size #[.int .u8 kd, zS, zS, zS]).cell? ⟨q, 1, none⟩ = some (.bool true) := by
          have hs := grown_setRow wr.drew w.heap.size #[.int .u8 kd, zS, zS, zS]
          have rN := (hs.block N (row_lt HS9.out.row) (fun e => Nat.ne_of_lt HS9.out.n1 (Option.some.inj e).symm)).trans HS9.out.row
          have rq := (hs.block q HS9.out.tk.lt (fun e => Nat.ne_of_lt HS9.out.q1 (Option.some.inj e).symm)).trans HS9.out.tk
          exact ⟨cell_of_row _ _ 0 _ _ _ rN, cell_of_row _ _ 1 _ _ _ rN, cell_of_row _ _ 2 _ _ _ rN, cell_of_row _ _ 3 _ _ _ rN, cell_of_row _ _ 0 _ _ _ rq, cell_of_row _ _ 1 _ _ _ rq⟩
        refine hK.out _ _ hS2 ?_
        clear hK K
        try simp only [Act.put, List.setIfInBounds_toArray, List.set_cons_zero, List.set_cons_succ]
        clear hS hS2 hown hrow9
        generalize World.setRow _ _ _ = wz at *
        refine done_T (by kernel_rfl) ?_
        simp only [List.drop_succ_cons, List.drop_zero]
        go_wp2_with fail
        rw [Exit.noGoto_ret]
        refine bodyPost_ret (v := .tuple #[.agg #[.int .u8 kd, zS, zS, zS], .bool false]) (results_row2 rfl _ _ w.heap.size 31 #[.int .u8 kd, zS, zS, zS] (0, 0) _ rfl HROW9.out Tryz.underlying31 rfl (by kernel_rfl) _ rfl) rfl ?_
        exact ⟨_, by rw [HR2.out], HOWN.out⟩
    · have HSX := Lib.hid (Hid.out hst)
      clear hst
      have HONE := Lib.hid (show (#[.int .u8 kd, zS, zS, zS] : Array Value).all (·.oneCell') = true from four_cells _ _ _ _ rfl rfl rfl rfl)
      have HLE := HM2
      cases b2
      · go_wp2_with fail
        have HTR := Lib.hid (show ∀ w', Calls Tryz.prog 154 #[.string (bs l2), .string ⟨#[0]⟩] w' fun e w2 => e = .returned (.string (bs (Lib.trimB l2 0))) ∧ (w2 = w' ∨ w2 = w'.drew) from fun w' => Tryz.strings_Trim_one (bs l2) 0 (by decide) w' (by have := HLE.out; unfold maxLen at this; omega))
        have HND := Lib.hid (show (tkN s.data.toList).1 = ⟨kd, [], [], []⟩ by rw [HT.out])
        by_cases hz : allz l2 = true
        · have HR2 := Lib.hid (show (tkN s.data.toList).2 = true by rw [HT.out]; show (!false && allz l2) = true; rw [hz]; rfl)
          have hz1 : (bs (Lib.trimB l2 0)).toList = [] := str_nil (by rw [bs_size, (trimB_nil l2).2 hz]; rfl)
          have hz2 : (bs (Lib.trimB l2 0)).toList.isEmpty = true := by rw [hz1]; rfl
          clear hz
          have HSF := Lib.hid (HSX.out)
          have HKP := Lib.hid (show ∀ w' : World, TkStI w q N kd (zS) [] l2 false w' → w'.cell? ⟨N, 0, none⟩ = some (.int .u8 kd) ∧ w'.cell? ⟨N, 1, none⟩ = some (zS) ∧ w'.cell? ⟨N, 2, none⟩ = some (zS) ∧ w'.cell? ⟨N, 3, none⟩ = some (zS) ∧ w'.cell? ⟨q, 0, none⟩ = some (.string (bs l2)) ∧ w'.cell? ⟨q, 1, none⟩ = some (.bool false) from fun w' h => ⟨cell_of_row _ _ 0 _ _ _ h.row, cell_of_row _ _ 1 _ _ _ h.row, cell_of_row _ _ 2 _ _ _ h.row, cell_of_row _ _ 3 _ _ _ h.row, h.tk.c0, h.tk.c1⟩)
          refine wp_region_T (fun w' : World => w'.cell? ⟨N, 0, none⟩ = some (.int .u8 kd) ∧ w'.cell? ⟨N, 1, none⟩ = some (zS) ∧ w'.cell? ⟨N, 2, none⟩ = some (zS) ∧ w'.cell? ⟨N, 3, none⟩ = some (zS) ∧ w'.cell? ⟨q, 0, none⟩ = some (.string (bs l2)) ∧ w'.cell? ⟨q, 1, none⟩ = some (.bool false)) 11 (by kernel_rfl) (by kernel_rfl) ?_
          have hS := HKP.out wr.drew (HSF.out.below (Below.refl _ _).drew)
          refine take_T 0 45 (.agg #[.int .u8 kd, zS, zS, zS]) rfl (by rfl) (by kernel_rfl) (by decide) (by kernel_rfl) (by kernel_rfl) (by kernel_rfl) (fun _ _ _ h => h) (Or.inl ⟨by rfl, fun w' hSw => by obtain ⟨s0, s1, s2, s3, s4, s5⟩ := hSw; go_simp⟩) hS ?_
          simp only [List.setIfInBounds_toArray, List.set_cons_zero, List.set_cons_succ]
          refine take_T 1 46 (.pointer (some ⟨q, 1, none⟩)) rfl (by rfl) (by kernel_rfl) (by decide) (by kernel_rfl) (by kernel_rfl) (by kernel_rfl) (fun _ _ _ h => h) (Or.inl ⟨by rfl, fun w' hSw => by obtain ⟨s0, s1, s2, s3, s4, s5⟩ := hSw; go_simp⟩) hS ?_
          simp only [List.setIfInBounds_toArray, List.set_cons_zero, List.set_cons_succ]
          refine take_T 2 47 (.bool false) rfl (by rfl) (by kernel_rfl) (by decide) (by kernel_rfl) (by kernel_rfl) (by kernel_rfl) (fun _ _ _ h => h) (Or.inl ⟨by rfl, fun w' hSw => by obtain ⟨s0, s1, s2, s3, s4, s5⟩ := hSw; go_simp⟩) hS ?_
          simp only [List.setIfInBounds_toArray, List.set_cons_zero, List.set_cons_succ]
          refine take_T 3 48 (.bool true) rfl (by rfl) (by kernel_rfl) (by decide) (by kernel_rfl) (by kernel_rfl) (by kernel_rfl) (fun _ _ _ h => h) (Or.inl ⟨by rfl, fun w' hSw => by obtain ⟨s0, s1, s2, s3, s4, s5⟩ := hSw; go_simp⟩) hS ?_
          simp only [List.setIfInBounds_toArray, List.set_cons_zero, List.set_cons_succ]
          refine take_T 4 49 (.bool true) rfl (by rfl) (by kernel_rfl) (by decide) (by kernel_rfl) (by kernel_rfl) (by kernel_rfl) (fun _ _ _ h => h) (Or.inl ⟨by rfl, fun w' hSw => by obtain ⟨s0, s1, s2, s3, s4, s5⟩ := hSw; go_simp⟩) hS ?_
          simp only [List.setIfInBounds_toArray, List.set_cons_zero, List.set_cons_succ]
          refine take_T 5 50 (.pointer (some ⟨q, 0, none⟩)) rfl (by rfl) (by kernel_rfl) (by decide) (by kernel_rfl) (by kernel_rfl) (by kernel_rfl) (fun _ _ _ h => h) (Or.inl ⟨by rfl, fun w' hSw => by obtain ⟨s0, s1, s2, s3, s4, s5⟩ := hSw; go_simp⟩) hS ?_
          simp only [List.setIfInBounds_toArray, List.set_cons_zero, List.set_cons_succ]
          refine take_T 6 51 (.string (bs l2)) rfl (by rfl) (by kernel_rfl) (by decide) (by kernel_rfl) (by kernel_rfl) (by kernel_rfl) (fun _ _ _ h => h) (Or.inl ⟨by rfl, fun w' hSw => by obtain ⟨s0, s1, s2, s3, s4, s5⟩ := hSw; go_simp⟩) hS ?_
          simp only [List.setIfInBounds_toArray, List.set_cons_zero, List.set_cons_succ]
          refine only_T 7 rfl (by kernel_rfl) (by decide) (by rfl) (fun K hK => ?_)
          go_wp2_with fail
          go_at_call 154
          refine (HTR.out _).mono ?_
          rintro e w9 ⟨rfl, hw9⟩
          have HS9 := Lib.hid (show TkStI w q N kd (zS) [] l2 false w9 from by
            rcases hw9 with rfl | rfl
            · exact HSF.out.below (Below.refl _ _).drew
            · exact (HSF.out.below (Below.refl _ _).drew).below (Below.refl _ _).drew)
          clear hw9
          have hS2 := HKP.out _ HS9.out
          refine hK.out _ _ hS2 ?_
          clear hK K
          try simp only [Act.put, List.setIfInBounds_toArray, List.set_cons_zero, List.set_cons_succ]
          clear hS
          have hS := hS2
          clear hS2
          refine take_T 8 53 (.bool true) rfl (by rfl) (by kernel_rfl) (by decide) (by kernel_rfl) (by kernel_rfl) (by kernel_rfl) (fun _ _ _ h => h) (Or.inl ⟨by rfl, fun w' hSw => by obtain ⟨s0, s1, s2, s3, s4, s5⟩ := hSw; go_simp⟩) hS ?_
          simp only [List.setIfInBounds_toArray, List.set_cons_zero, List.set_cons_succ]
          refine take_T 9 54 (.bool true) rfl (by rfl) (by kernel_rfl) (by decide) (by kernel_rfl) (by kernel_rfl) (by kernel_rfl) (fun _ _ _ h => h) (Or.inl ⟨by rfl, fun w' hSw => by obtain ⟨s0, s1, s2, s3, s4, s5⟩ := hSw; go_simp⟩) hS ?_
          simp only [List.setIfInBounds_toArray, List.set_cons_zero, List.set_cons_succ]
          refine only_T 10 rfl (by kernel_rfl) (by decide) (by rfl) (fun K hK => ?_)
          refine wp_store_row 31 (.tmp 2) (.tmp 45) rfl w.heap.size #[.int .u8 kd, zS, zS, zS] rfl rfl 31 #[.int .u8 0, zS, zS, zS] HS9.out.res (by kernel_rfl) rfl HONE.out ?_
          obtain ⟨hown, hrow9⟩ := HS9.out.out HND.out
          have HOWN := Lib.hid hown
          have HROW9 := Lib.hid hrow9
          have hS2 : (w9.setRow w.heap.size #[.int .u8 kd, zS, zS, zS]).cell? ⟨N, 0, none⟩ = some (.int .u8 kd) ∧ (w9.setRow w.heap.size #[.int .u8 kd, zS, zS, zS]).cell? ⟨N, 1, none⟩ = some (zS) ∧ (w9.setRow w.heap.size #[.int .u8 kd, zS, zS, zS]).cell? ⟨N, 2, none⟩ = some (zS) ∧ (w9.setRow w.heap.size #[.int .u8 kd, zS, zS, zS]).cell? ⟨N, 3, none⟩ = some (zS) ∧ (w9.setRow w.heap.size #[.int .u8 kd, zS, zS, zS]).cell? ⟨q, 0, none⟩ = some (.string (bs l2)) ∧ (w9.setRow w.heap.size #[.int .u8 kd, zS, zS, zS]).cell? ⟨q, 1, none⟩ = some (.bool false) := by
            have hs := grown_setRow w9 w.heap.size #[.int .u8 kd, zS, zS, zS]
            have rN := (hs.block N (row_lt HS9.out.row) (fun e => Nat.ne_of_lt HS9.out.n1 (Option.some.inj e).symm)).trans HS9.out.row
            have rq := (hs.block q HS9.out.tk.lt (fun e => Nat.ne_of_lt HS9.out.q1 (Option.some.inj e).symm)).trans HS9.out.tk
            exact ⟨cell_of_row _ _ 0 _ _ _ rN, cell_of_row _ _ 1 _ _ _ rN, cell_of_row _ _ 2 _ _ _ rN, cell_of_row _ _ 3 _ _ _ rN, cell_of_row _ _ 0 _ _ _ rq, cell_of_row _ _ 1 _ _ _ rq⟩
          refine hK.out _ _ hS2 ?_
          clear hK K
          try simp only [Act.put, List.setIfInBounds_toArray, List.set_cons_zero, List.set_cons_succ]
          clear hS hS2 hown hrow9
          generalize World.setRow _ _ _ = wz at *
          refine done_T (by kernel_rfl) ?_
          simp only [List.drop_succ_cons, List.drop_zero]
          go_wp2_with fail
          rw [Exit.noGoto_ret]
          refine bodyPost_ret (v := .tuple #[.agg #[.int .u8 kd, zS, zS, zS], .bool true]) (results_row2 rfl _ _ w.heap.size 31 #[.int .u8 kd, zS, zS, zS] (0, 0) _ rfl HROW9.out Tryz.underlying31 rfl (by kernel_rfl) _ rfl) rfl ?_
          exact ⟨_, by rw [HR2.out], HOWN.out⟩
        · have hz0 : (bs (Lib.trimB l2 0)).size ≠ 0 := by
            rw [bs_size]; intro h; exact hz ((trimB_nil l2).1 (List.eq_nil_of_length_eq_zero h))
          have HR2 := Lib.hid (show (tkN s.data.toList).2 = false by rw [HT.out]; show (!false && allz l2) = false; rw [Bool.eq_false_iff.2 hz]; rfl)
          have hz1 := str_empty hz0
          have hz2 := str_nonil hz0
          clear hz hz0
          have HSF := Lib.hid (HSX.out)
          have HKP := Lib.hid (show ∀ w' : World, TkStI w q N kd (zS) [] l2 false w' → w'.cell? ⟨N, 0, none⟩ = some (.int .u8 kd) ∧ w'.cell? ⟨N, 1, none⟩ = some (zS) ∧ w'.cell? ⟨N, 2, none⟩ = some (zS) ∧ w'.cell? ⟨N, 3, none⟩ = some (zS) ∧ w'.cell? ⟨q, 0, none⟩ = some (.string (bs l2)) ∧ w'.cell? ⟨q, 1, none⟩ = some (.bool false) from fun w' h => ⟨cell_of_row _ _ 0 _ _ _ h.row, cell_of_row _ _ 1 _ _ _ h.row, cell_of_row _ _ 2 _ _ _ h.row, cell_of_row _ _ 3 _ _ _ h.row, h.tk.c0, h.tk.c1⟩)
          refine wp_region_T (fun w' : World => w'.cell? ⟨N, 0, none⟩ = some (.int .u8 kd) ∧ w'.cell? ⟨N, 1, none⟩ = some (zS) ∧ w'.cell? ⟨N, 2, none⟩ = some (zS) ∧ w'.cell? ⟨N, 3, none⟩ = some (zS) ∧ w'.cell? ⟨q, 0, none⟩ = some (.string (bs l2)) ∧ w'.cell? ⟨q, 1, none⟩ = some (.bool false)) 11 (by kernel_rfl) (by kernel_rfl) ?_
          have hS := HKP.out wr.drew (HSF.out.below (Below.refl _ _).drew)
          refine take_T 0 45 (.agg #[.int .u8 kd, zS, zS, zS]) rfl (by rfl) (by kernel_rfl) (by decide) (by kernel_rfl) (by kernel_rfl) (by kernel_rfl) (fun _ _ _ h => h) (Or.inl ⟨by rfl, fun w' hSw => by obtain ⟨s0, s1, s2, s3, s4, s5⟩ := hSw; go_simp⟩) hS ?_
          simp only [List.setIfInBounds_toArray, List.set_cons_zero, List.set_cons_succ]
          refine take_T 1 46 (.pointer (some ⟨q, 1, none⟩)) rfl (by rfl) (by kernel_rfl) (by decide) (by kernel_rfl) (by kernel_rfl) (by kernel_rfl) (fun _ _ _ h => h) (Or.inl ⟨by rfl, fun w' hSw => by obtain ⟨s0, s1, s2, s3, s4, s5⟩ := hSw; go_simp⟩) hS ?_
          simp only [List.setIfInBounds_toArray, List.set_cons_zero, List.set_cons_succ]
          refine take_T 2 47 (.bool false) rfl (by rfl) (by kernel_rfl) (by decide) (by kernel_rfl) (by kernel_rfl) (by kernel_rfl) (fun _ _ _ h => h) (Or.inl ⟨by rfl, fun w' hSw => by obtain ⟨s0, s1, s2, s3, s4, s5⟩ := hSw; go_simp⟩) hS ?_
          simp only [List.setIfInBounds_toArray, List.set_cons_zero, List.set_cons_succ]
          refine take_T 3 48 (.bool true) rfl (by rfl) (by kernel_rfl) (by decide) (by kernel_rfl) (by kernel_rfl) (by kernel_rfl) (fun _ _ _ h => h) (Or.inl ⟨by rfl, fun w' hSw => by obtain ⟨s0, s1, s2, s3, s4, s5⟩ := hSw; go_simp⟩) hS ?_
          simp only [List.setIfInBounds_toArray, List.set_cons_zero, List.set_cons_succ]
          refine take_T 4 49 (.bool true) rfl (by rfl) (by kernel_rfl) (by decide) (by kernel_rfl) (by kernel_rfl) (by kernel_rfl) (fun _ _ _ h => h) (Or.inl ⟨by rfl, fun w' hSw => by obtain ⟨s0, s1, s2, s3, s4, s5⟩ := hSw; go_simp⟩) hS ?_
          simp only [List.setIfInBounds_toArray, List.set_cons_zero, List.set_cons_succ]
          refine take_T 5 50 (.pointer (some ⟨q, 0, none⟩)) rfl (by rfl) (by kernel_rfl) (by decide) (by kernel_rfl) (by kernel_rfl) (by kernel_rfl) (fun _ _ _ h => h) (Or.inl ⟨by rfl, fun w' hSw => by obtain ⟨s0, s1, s2, s3, s4, s5⟩ := hSw; go_simp⟩) hS ?_
          simp only [List.setIfInBounds_toArray, List.set_cons_zero, List.set_cons_succ]
          refine take_T 6 51 (.string (bs l2)) rfl (by rfl) (by kernel_rfl) (by decide) (by kernel_rfl) (by kernel_rfl) (by kernel_rfl) (fun _ _ _ h => h) (Or.inl ⟨by rfl, fun w' hSw => by obtain ⟨s0, s1, s2, s3, s4, s5⟩ := hSw; go_simp⟩) hS ?_
          simp only [List.setIfInBounds_toArray, List.set_cons_zero, List.set_cons_succ]
          refine only_T 7 rfl (by kernel_rfl) (by decide) (by rfl) (fun K hK => ?_)
          go_wp2_with fail
          go_at_call 154
          refine (HTR.out _).mono ?_
          rintro e w9 ⟨rfl, hw9⟩
          have HS9 := Lib.hid (show TkStI w q N kd (zS) [] l2 false w9 from by
            rcases hw9 with rfl | rfl
            · exact HSF.out.below (Below.refl _ _).drew
            · exact (HSF.out.below (Below.refl _ _).drew).below (Below.refl _ _).drew)
          clear hw9
          have hS2 := HKP.out _ HS9.out
          refine hK.out _ _ hS2 ?_
          clear hK K
          try simp only [Act.put, List.setIfInBounds_toArray, List.set_cons_zero, List.set_cons_succ]
          clear hS
          have hS := hS2
          clear hS2
          refine take_T 8 53 (.bool false) rfl (by rfl) (by kernel_rfl) (by decide) (by kernel_rfl) (by kernel_rfl) (by kernel_rfl) (fun _ _ _ h => h) (Or.inl ⟨by rfl, fun w' hSw => by obtain ⟨s0, s1, s2, s3, s4, s5⟩ := hSw; go_simp⟩) hS ?_
          simp only [List.setIfInBounds_toArray, List.set_cons_zero, List.set_cons_succ]
          refine take_T 9 54 (.bool false) rfl (by rfl) (by kernel_rfl) (by decide) (by kernel_rfl) (by kernel_rfl) (by kernel_rfl) (fun _ _ _ h => h) (Or.inl ⟨by rfl, fun w' hSw => by obtain ⟨s0, s1, s2, s3, s4, s5⟩ := hSw; go_simp⟩) hS ?_
          simp only [List.setIfInBounds_toArray, List.set_cons_zero, List.set_cons_succ]
          refine only_T 10 rfl (by kernel_rfl) (by decide) (by rfl) (fun K hK => ?_)
          refine wp_store_row 31 (.tmp 2) (.tmp 45) rfl w.heap.size #[.int .u8 kd, zS, zS, zS] rfl rfl 31 #[.int .u8 0, zS, zS, zS] HS9.out.res (by kernel_rfl) rfl HONE.out ?_
          obtain ⟨hown, hrow9⟩ := HS9.out.out HND.out
          have HOWN := Lib.hid hown
          have HROW9 := Lib.hid hrow9
          have hS2 : (w9.setRow w.heap.size #[.int .u8 kd, zS, zS, zS]).cell? ⟨N, 0, none⟩ = some (.int .u8 kd) ∧ (w9.setRow w.heap.size #[.int .u8 kd, zS, zS, zS]).cell? ⟨N, 1, none⟩ = some (zS) ∧ (w9.setRow w.heap.size #[.int .u8 kd, zS, zS, zS]).cell? ⟨N, 2, none⟩ = some (zS) ∧ (w9.setRow w.heap.size #[.int .u8 kd, zS, zS, zS]).cell? ⟨N, 3, none⟩ = some (zS) ∧ (w9.setRow w.heap.size #[.int .u8 kd, zS, zS, zS]).cell? ⟨q, 0, none⟩ = some (.string (bs l2)) ∧ (w9.setRow w.heap.size #[.int .u8 kd, zS, zS, zS]).cell? ⟨q, 1, none⟩ = some (.bool false) := by
            have hs := grown_setRow w9 w.heap.size #[.int .u8 kd, zS, zS, zS]
            have rN := (hs.block N (row_lt HS9.out.row) (fun e => Nat.ne_of_lt HS9.out.n1 (Option.some.inj e).symm)).trans HS9.out.row
            have rq := (hs.block q HS9.out.tk.lt (fun e => Nat.ne_of_lt HS9.out.q1 (Option.some.inj e).symm)).trans HS9.out.tk
            exact ⟨cell_of_row _ _ 0 _ _ _ rN, cell_of_row _ _ 1 _ _ _ rN, cell_of_row _ _ 2 _ _ _ rN, cell_of_row _ _ 3 _ _ _ rN, cell_of_row _ _ 0 _ _ _ rq, cell_of_row _ _ 1 _ _ _ rq⟩
          refine hK.out _ _ hS2 ?_
          clear hK K
          try simp only [Act.put, List.setIfInBounds_toArray, List.set_cons_zero, List.set_cons_succ]
          clear hS hS2 hown hrow9
          generalize World.setRow _ _ _ = wz at *
          refine done_T (by kernel_rfl) ?_
          simp only [List.drop_succ_cons, List.drop_zero]
          go_wp2_with fail
          rw [Exit.noGoto_ret]
          refine bodyPost_ret (v := .tuple #[.agg #[.int .u8 kd, zS, zS, zS], .bool false]) (results_row2 rfl _ _ w.heap.size 31 #[.int .u8 kd, zS, zS, zS] (0, 0) _ rfl HROW9.out Tryz.underlying31 rfl (by kernel_rfl) _ rfl) rfl ?_
          exact ⟨_, by rw [HR2.out], HOWN.out⟩
      · go_wp2_with fail
        have HR2 := Lib.hid (show (tkN s.data.toList).2 = false by rw [HT.out]; rfl)
        have HND := Lib.hid (show (tkN s.data.toList).1 = ⟨kd, [], [], []⟩ by rw [HT.out])
        have HSF := Lib.hid (HSX.out)
        have HKP := Lib.hid (show ∀ w' : World, TkStI w q N kd (zS) [] l2 true w' → w'.cell? ⟨N, 0, none⟩ = some (.int .u8 kd) ∧ w'.cell? ⟨N, 1, none⟩ = some (zS) ∧ w'.cell? ⟨N, 2, none⟩ = some (zS) ∧ w'.cell? ⟨N, 3, none⟩ = some (zS) ∧ w'.cell? ⟨q, 0, none⟩ = some (.string (bs l2)) ∧ w'.cell? ⟨q, 1, none⟩ = some (.bool true) from fun w' h => ⟨cell_of_row _ _ 0 _ _ _ h.row, cell_of_row _ _ 1 _ _ _ h.row, cell_of_row _ _ 2 _ _ _ h.row, cell_of_row _ _ 3 _ _ _ h.row, h.tk.c0, h.tk.c1⟩)
        refine wp_region_T (fun w' : World => w'.cell? ⟨N, 0, none⟩ = some (.int .u8 kd) ∧ w'.cell? ⟨N, 1, none⟩ = some (zS) ∧ w'.cell? ⟨N, 2, none⟩ = some (zS) ∧ w'.cell? ⟨N, 3, none⟩ = some (zS) ∧ w'.cell? ⟨q, 0, none⟩ = some (.string (bs l2)) ∧ w'.cell? ⟨q, 1, none⟩ = some (.bool true)) 11 (by kernel_rfl) (by kernel_rfl) ?_
        have hS := HKP.out wr.drew (HSF.out.below (Below.refl _ _).drew)
        refine take_T 0 45 (.agg #[.int .u8 kd, zS, zS, zS]) rfl (by rfl) (by kernel_rfl) (by decide) (by kernel_rfl) (by kernel_rfl) (by kernel_rfl) (fun _ _ _ h => h) (Or.inl ⟨by rfl, fun w' hSw => by obtain ⟨s0, s1, s2, s3, s4, s5⟩ := hSw; go_simp⟩) hS ?_
        simp only [List.setIfInBounds_toArray, List.set_cons_zero, List.set_cons_succ]
        refine take_T 1 46 (.pointer (some ⟨q, 1, none⟩)) rfl (by rfl) (by kernel_rfl) (by decide) (by kernel_rfl) (by kernel_rfl) (by kernel_rfl) (fun _ _ _ h => h) (Or.inl ⟨by rfl, fun w' hSw => by obtain ⟨s0, s1, s2, s3, s4, s5⟩ := hSw; go_simp⟩) hS ?_
        simp only [List.setIfInBounds_toArray, List.set_cons_zero, List.set_cons_succ]
        refine take_T 2 47 (.bool true) rfl (by rfl) (by kernel_rfl) (by decide) (by kernel_rfl) (by kernel_rfl) (by kernel_rfl) (fun _ _ _ h => h) (Or.inl ⟨by rfl, fun w' hSw => by obtain ⟨s0, s1, s2, s3, s4, s5⟩ := hSw; go_simp⟩) hS ?_
        simp only [List.setIfInBounds_toArray, List.set_cons_zero, List.set_cons_succ]
        refine take_T 3 48 (.bool false) rfl (by rfl) (by kernel_rfl) (by decide) (by kernel_rfl) (by kernel_rfl) (by kernel_rfl) (fun _ _ _ h => h) (Or.inl ⟨by rfl, fun w' hSw => by obtain ⟨s0, s1, s2, s3, s4, s5⟩ := hSw; go_simp⟩) hS ?_
        simp only [List.setIfInBounds_toArray, List.set_cons_zero, List.set_cons_succ]
        refine take_T 4 49 (.bool false) rfl (by rfl) (by kernel_rfl) (by decide) (by kernel_rfl) (by kernel_rfl) (by kernel_rfl) (fun _ _ _ h => h) (Or.inl ⟨by rfl, fun w' hSw => by obtain ⟨s0, s1, s2, s3, s4, s5⟩ := hSw; go_simp⟩) hS ?_
        simp only [List.setIfInBounds_toArray, List.set_cons_zero, List.set_cons_succ]
        refine take_T 5 50 undef rfl (by rfl) (by kernel_rfl) (by decide) (by kernel_rfl) (by kernel_rfl) (by kernel_rfl) (fun _ _ _ h => h) (Or.inr ⟨by rfl, rfl⟩) hS ?_
        simp only [List.setIfInBounds_toArray, List.set_cons_zero, List.set_cons_succ]
        refine take_T 6 51 undef rfl (by rfl) (by kernel_rfl) (by decide) (by kernel_rfl) (by kernel_rfl) (by kernel_rfl) (fun _ _ _ h => h) (Or.inr ⟨by rfl, rfl⟩) hS ?_
        simp only [List.setIfInBounds_toArray, List.set_cons_zero, List.set_cons_succ]
        refine take_T 7 52 undef rfl (by rfl) (by kernel_rfl) (by decide) (by kernel_rfl) (by kernel_rfl) (by kernel_rfl) (fun _ _ _ h => h) (Or.inr ⟨by rfl, rfl⟩) hS ?_
        simp only [List.setIfInBounds_toArray, List.set_cons_zero, List.set_cons_succ]
        refine take_T 8 53 undef rfl (by rfl) (by kernel_rfl) (by decide) (by kernel_rfl) (by kernel_rfl) (by kernel_rfl) (fun _ _ _ h => h) (Or.inr ⟨by rfl, rfl⟩) hS ?_
        simp only [List.setIfInBounds_toArray, List.set_cons_zero, List.set_cons_succ]
        refine take_T 9 54 (.bool false) rfl (by rfl) (by kernel_rfl) (by decide) (by kernel_rfl) (by kernel_rfl) (by kernel_rfl) (fun _ _ _ h => h) (Or.inl ⟨by rfl, fun w' hSw => by obtain ⟨s0, s1, s2, s3, s4, s5⟩ := hSw; go_simp⟩) hS ?_
        simp only [List.setIfInBounds_toArray, List.set_cons_zero, List.set_cons_succ]
        have HS9 := Lib.hid (show TkStI w q N kd (zS) [] l2 true wr.drew from HSF.out.below (Below.refl _ _).drew)
        refine only_T 10 rfl (by kernel_rfl) (by decide) (by rfl) (fun K hK => ?_)
        refine wp_store_row 31 (.tmp 2) (.tmp 45) rfl w.heap.size #[.int .u8 kd, zS, zS, zS] rfl rfl 31 #[.int .u8 0, zS, zS, zS] HS9.out.res (by kernel_rfl) rfl HONE.out ?_
        obtain ⟨hown, hrow9⟩ := HS9.out.out HND.out
        have HOWN := Lib.hid hown
        have HROW9 := Lib.hid hrow9
        have hS2 : (wr.drew.setRow w.heap.size #[.int .u8 kd, zS, zS, zS]).cell? ⟨N, 0, none⟩ = some (.int .u8 kd) ∧ (wr.drew.setRow w.heap.size #[.int .u8 kd, zS, zS, zS]).cell? ⟨N, 1, none⟩ = some (zS) ∧ (wr.drew.setRow w.heap.size #[.int .u8 kd, zS, zS, zS]).cell? ⟨N, 2, none⟩ = some (zS) ∧ (wr.drew.setRow w.heap.size #[.int .u8 kd, zS, zS, zS]).cell? ⟨N, 3, none⟩ = some (zS) ∧ (wr.drew.setRow w.heap.size #[.int .u8 kd, zS, zS, zS]).cell? ⟨q, 0, none⟩ = some (.string (bs l2)) ∧ (wr.drew.setRow w.heap.size #[.int .u8 kd, zS, zS, zS]).cell? ⟨q, 1, none⟩ = some (.bool true) := by
          have hs := grown_setRow wr.drew w.heap.size #[.int .u8 kd, zS, zS, zS]
          have rN := (hs.block N (row_lt HS9.out.row) (fun e => Nat.ne_of_lt HS9.out.n1 (Option.some.inj e).symm)).trans HS9.out.row
          have rq := (hs.block q HS9.out.tk.lt (fun e => Nat.ne_of_lt HS9.out.q1 (Option.some.inj e).symm)).trans HS9.out.tk
          exact ⟨cell_of_row _ _ 0 _ _ _ rN, cell_of_row _ _ 1 _ _ _ rN, cell_of_row _ _ 2 _ _ _ rN, cell_of_row _ _ 3 _ _ _ rN, cell_of_row _ _ 0 _ _ _ rq, cell_of_row _ _ 1 _ _ _ rq⟩
        refine hK.out _ _ hS2 ?_
        clear hK K
        try simp only [Act.put, List.setIfInBounds_toArray, List.set_cons_zero, List.set_cons_succ]
        clear hS hS2 hown hrow9
        generalize World.setRow _ _ _ = wz at *
        refine done_T (by kernel_rfl) ?_
        simp only [List.drop_succ_cons, List.drop_zero]
        go_wp2_with fail
        rw [Exit.noGoto_ret]
        refine bodyPost_ret (v := .tuple #[.agg #[.int .u8 kd, zS, zS, zS], .bool false]) (results_row2 rfl _ _ w.heap.size 31 #[.int .u8 kd, zS, zS, zS] (0, 0) _ rfl HROW9.out Tryz.underlying31 rfl (by kernel_rfl) _ rfl) rfl ?_
        exact ⟨_, by rw [HR2.out], HOWN.out⟩
theorem taken_any (s : ByteArray) (h4 : s.size ≤ maxLen) (w : World) : Calls Tryz.prog 121 #[.string s] w (TkPost s.data.toList w) := by
  by_cases h1 : (tkNum 1 (s.data.toList, false)).1 = 1
  · exact takenI s h4 h1 w
  · by_cases h2 : (tkNum 1 (s.data.toList, false)).1 = 2
    · exact takenK s h4 h2 w
    · by_cases h3 : (tkNum 1 (s.data.toList, false)).1 = 3
      · exact takenV s h4 h3 w
      · exact takenZ s h4 ⟨h1, h2, h3⟩ w
end Go.Proofs.YtlpejbbmemhloaaGreatDoor.Nd
/- Contracts of package node's right, Check. -/
namespace Go.Proofs.YtlpejbbmemhloaaGreatDoor.Nd
set_option linter.unusedVariables false
set_option linter.unusedSimpArgs false
open Go.ChangeShapes Go.WideShapes Go.ChangeAt Go.RowKit
open Ar Rg
open BigFrame
open Pk (u8s u8s_length)
open It (str_le below_drewN)
theorem rightCount_at (n : Nat) (w : World) : Calls Tryz.prog 105 #[.int .i64 n] w fun e w' => e = .returned (.bool (okCount n)) ∧ w = w' := rightCount_any n w
set_option maxRecDepth 100000 in
set_option maxHeartbeats 4000000 in
theorem right_any (n : Nd) (hw : Wd n) (cs : Array Value) (w : World) (hn : NdAt w cs n) :
    Calls Tryz.prog 81 #[.agg cs] w fun e w' => e = .returned (.bool (rtN n)) ∧ Below w.heap.size w w' := by
  obtain ⟨AI, nI, cI, AK, nK, cK, AV, nV, cV, rfl, hI, hK, hV, bI, bK, bV, lI, lK, lV⟩ := hn
  obtain ⟨kd, I, K, V⟩ := n
  obtain ⟨wK, wV⟩ := hw
  dsimp only at hI hK hV lI lK lV wK wV ⊢
  have HB0 := Lib.hid (show Below w.heap.size w (w.alloc (.cells #[.int .u8 (kd : Int), .slice AI nI cI, .slice AK nK cK, .slice AV nV cV] 31)) from (Below.refl _ _).alloc (Nat.le_refl _) _)
  have HR0 := Lib.hid (heap_alloc_new w (.cells #[.int .u8 (kd : Int), .slice AI nI cI, .slice AK nK cK, .slice AV nV cV] 31))
  have HLI := Lib.hid lI
  have HLK := Lib.hid lK
  have HLV := Lib.hid lV
  have HWK := Lib.hid (show ∀ x ∈ K, x.hs.length = 32 from fun x hx => (wK x hx).2)
  have HWV := Lib.hid (show ∀ x ∈ V, x.hs.length = 32 from fun x hx => (wV x hx).2.2.2)
  have HCI := Lib.hid (fun w' (hb : Below w.heap.size w w') => It.check_any I AI nI cI w.heap.size hI bI w' hb.size (lI.below hb))
  have HCK := Lib.hid (fun w' (hb : Below w.heap.size w w') => rightKids_any K (fun x hx => (wK x hx).2) AK nK cK w.heap.size hK bK w' hb.size (lK.below hb))
  have HCV := Lib.hid (fun w' (hb : Below w.heap.size w w') => rightVolumes_any V (fun x hx => (wV x hx).2.2.2) AV nV cV w.heap.size hV bV w' hb.size (lV.below hb))
  obtain ⟨R, hR⟩ : ∃ R, rtN ⟨kd, I, K, V⟩ = R := ⟨_, rfl⟩
  rw [hR]
  have HR := Lib.hid hR
  unfold rtN at HR
  dsimp only at HR
  rw [← hI, ← hK, ← hV] at HR
  clear hI hK hV lI lK lV wK wV hR HLI HLK HLV HWK HWV
  by_cases h1 : kd = 1
  · by_cases c1 : nK = 0
    · have snK : ((nK : Int) == 0) = true := by rw [beq_iff_eq]; omega
      by_cases c2 : nV = 0
      · have snV : ((nV : Int) == 0) = true := by rw [beq_iff_eq]; omega
        have HQ := Lib.hid (fun w => rightCount_any nI w)
        have HX := Lib.hid (show R = (okCount nI && It.rt I) by rw [← HR.out]; simp [h1, c1, c2])
        clear HR c1 c2
        generalize okCount nI = p at *
        generalize It.rt I = q at *
        cases p
        · have H1 := Lib.hid h1
          clear h1
          go_enter Tryz.func81, Tryz.ntmps81
          go_wp2_with fail
          generalize w.alloc _ = w0 at *
          have a0 : w0.cell? ⟨w.heap.size, 0, none⟩ = some (.int .u8 kd) := cell_of_row _ _ 0 _ _ _ HR0.out
          have a1 : w0.cell? ⟨w.heap.size, 1, none⟩ = some (.slice AI nI cI) := cell_of_row _ _ 1 _ _ _ HR0.out
          have a2 : w0.cell? ⟨w.heap.size, 2, none⟩ = some (.slice AK nK cK) := cell_of_row _ _ 2 _ _ _ HR0.out
          have a3 : w0.cell? ⟨w.heap.size, 3, none⟩ = some (.slice AV nV cV) := cell_of_row _ _ 3 _ _ _ HR0.out
          go_quiet (fail)
          have HB1 := Lib.hid (below_drewN HB0.out nq)
          have b0 : (w0.drewN nq).cell? ⟨w.heap.size, 0, none⟩ = some (.int .u8 kd) := a0
          have b1 : (w0.drewN nq).cell? ⟨w.heap.size, 1, none⟩ = some (.slice AI nI cI) := a1
          have b2 : (w0.drewN nq).cell? ⟨w.heap.size, 2, none⟩ = some (.slice AK nK cK) := a2
          have b3 : (w0.drewN nq).cell? ⟨w.heap.size, 3, none⟩ = some (.slice AV nV cV) := a3
          clear a0 a1 a2 a3 HB0 HR0
          generalize World.drewN _ _ = W1 at *
          have q1 : ((kd : Int) == 1) = true := by rw [H1.out]; rfl
          go_wp2_with (first | (go_at_call 105; refine (HQ.out _).mono ?_; rintro e w' ⟨rfl, rfl⟩))
          go_ret
          exact ⟨by rw [HX.out]; rfl, HB1.out⟩
        · cases q
          · rw [show It.errF false = Value.int .i64 4 from rfl] at HCI
            have H1 := Lib.hid h1
            clear h1
            go_enter Tryz.func81, Tryz.ntmps81
            go_wp2_with fail
            generalize w.alloc _ = w0 at *
            have a0 : w0.cell? ⟨w.heap.size, 0, none⟩ = some (.int .u8 kd) := cell_of_row _ _ 0 _ _ _ HR0.out
            have a1 : w0.cell? ⟨w.heap.size, 1, none⟩ = some (.slice AI nI cI) := cell_of_row _ _ 1 _ _ _ HR0.out
            have a2 : w0.cell? ⟨w.heap.size, 2, none⟩ = some (.slice AK nK cK) := cell_of_row _ _ 2 _ _ _ HR0.out
            have a3 : w0.cell? ⟨w.heap.size, 3, none⟩ = some (.slice AV nV cV) := cell_of_row _ _ 3 _ _ _ HR0.out
            go_quiet (fail)
            have HB1 := Lib.hid (below_drewN HB0.out nq)
            have b0 : (w0.drewN nq).cell? ⟨w.heap.size, 0, none⟩ = some (.int .u8 kd) := a0
            have b1 : (w0.drewN nq).cell? ⟨w.heap.size, 1, none⟩ = some (.slice AI nI cI) := a1
            have b2 : (w0.drewN nq).cell? ⟨w.heap.size, 2, none⟩ = some (.slice AK nK cK) := a2
            have b3 : (w0.drewN nq).cell? ⟨w.heap.size, 3, none⟩ = some (.slice AV nV cV) := a3
            clear a0 a1 a2 a3 HB0 HR0
            generalize World.drewN _ _ = W1 at *
            have q1 : ((kd : Int) == 1) = true := by rw [H1.out]; rfl
            go_wp2_with (first | (go_at_call 105; refine (HQ.out _).mono ?_; rintro e w' ⟨rfl, rfl⟩) | (go_at_call 106; refine (HCI.out _ HB1.out).mono ?_; rintro e w3 ⟨rfl, hb3⟩))
            go_ret
            exact ⟨by rw [HX.out]; rfl, HB1.out.trans (hb3.mono HB1.out.size)⟩
          · rw [show It.errF true = Value.int .i64 0 from rfl] at HCI
            have H1 := Lib.hid h1
            clear h1
            go_enter Tryz.func81, Tryz.ntmps81
            go_wp2_with fail
            generalize w.alloc _ = w0 at *
            have a0 : w0.cell? ⟨w.heap.size, 0, none⟩ = some (.int .u8 kd) := cell_of_row _ _ 0 _ _ _ HR0.out
            have a1 : w0.cell? ⟨w.heap.size, 1, none⟩ = some (.slice AI nI cI) := cell_of_row _ _ 1 _ _ _ HR0.out
            have a2 : w0.cell? ⟨w.heap.size, 2, none⟩ = some (.slice AK nK cK) := cell_of_row _ _ 2 _ _ _ HR0.out
            have a3 : w0.cell? ⟨w.heap.size, 3, none⟩ = some (.slice AV nV cV) := cell_of_row _ _ 3 _ _ _ HR0.out
            go_quiet (fail)
            have HB1 := Lib.hid (below_drewN HB0.out nq)
            have b0 : (w0.drewN nq).cell? ⟨w.heap.size, 0, none⟩ = some (.int .u8 kd) := a0
            have b1 : (w0.drewN nq).cell? ⟨w.heap.size, 1, none⟩ = some (.slice AI nI cI) := a1
            have b2 : (w0.drewN nq).cell? ⟨w.heap.size, 2, none⟩ = some (.slice AK nK cK) := a2
            have b3 : (w0.drewN nq).cell? ⟨w.heap.size, 3, none⟩ = some (.slice AV nV cV) := a3
            clear a0 a1 a2 a3 HB0 HR0
            generalize World.drewN _ _ = W1 at *
            have q1 : ((kd : Int) == 1) = true := by rw [H1.out]; rfl
            go_wp2_with (first | (go_at_call 105; refine (HQ.out _).mono ?_; rintro e w' ⟨rfl, rfl⟩) | (go_at_call 106; refine (HCI.out _ HB1.out).mono ?_; rintro e w3 ⟨rfl, hb3⟩))
            go_ret
            exact ⟨by rw [HX.out]; rfl, HB1.out.trans (hb3.mono HB1.out.size)⟩
      · have snV : ((nV : Int) == 0) = false := by rw [beq_eq_false_iff_ne]; omega
        have HX := Lib.hid (show R = false by rw [← HR.out]; simp [h1, c1, c2])
        clear HR c1 c2
        have H1 := Lib.hid h1
        clear h1
        go_enter Tryz.func81, Tryz.ntmps81
        go_wp2_with fail
        generalize w.alloc _ = w0 at *
        have a0 : w0.cell? ⟨w.heap.size, 0, none⟩ = some (.int .u8 kd) := cell_of_row _ _ 0 _ _ _ HR0.out
        have a1 : w0.cell? ⟨w.heap.size, 1, none⟩ = some (.slice AI nI cI) := cell_of_row _ _ 1 _ _ _ HR0.out
        have a2 : w0.cell? ⟨w.heap.size, 2, none⟩ = some (.slice AK nK cK) := cell_of_row _ _ 2 _ _ _ HR0.out
        have a3 : w0.cell? ⟨w.heap.size, 3, none⟩ = some (.slice AV nV cV) := cell_of_row _ _ 3 _ _ _ HR0.out
        go_quiet (fail)
        have HB1 := Lib.hid (below_drewN HB0.out nq)
        have b0 : (w0.drewN nq).cell? ⟨w.heap.size, 0, none⟩ = some (.int .u8 kd) := a0
        have b1 : (w0.drewN nq).cell? ⟨w.heap.size, 1, none⟩ = some (.slice AI nI cI) := a1
        have b2 : (w0.drewN nq).cell? ⟨w.heap.size, 2, none⟩ = some (.slice AK nK cK) := a2
        have b3 : (w0.drewN nq).cell? ⟨w.heap.size, 3, none⟩ = some (.slice AV nV cV) := a3
        clear a0 a1 a2 a3 HB0 HR0
        generalize World.drewN _ _ = W1 at *
        have q1 : ((kd : Int) == 1) = true := by rw [H1.out]; rfl
        go_wp2_with fail
        go_ret
        exact ⟨by rw [HX.out]; rfl, HB1.out⟩
    · have snK : ((nK : Int) == 0) = false := by rw [beq_eq_false_iff_ne]; omega
      have HX := Lib.hid (show R = false by rw [← HR.out]; simp [h1, c1])
      clear HR c1
      have H1 := Lib.hid h1
      clear h1
      go_enter Tryz.func81, Tryz.ntmps81
      go_wp2_with fail
      generalize w.alloc _ = w0 at *
      have a0 : w0.cell? ⟨w.heap.size, 0, none⟩ = some (.int .u8 kd) := cell_of_row _ _ 0 _ _ _ HR0.out
      have a1 : w0.cell? ⟨w.heap.size, 1, none⟩ = some (.slice AI nI cI) := cell_of_row _ _ 1 _ _ _ HR0.out
      have a2 : w0.cell? ⟨w.heap.size, 2, none⟩ = some (.slice AK nK cK) := cell_of_row _ _ 2 _ _ _ HR0.out
      have a3 : w0.cell? ⟨w.heap.size, 3, none⟩ = some (.slice AV nV cV) := cell_of_row _ _ 3 _ _ _ HR0.out
      go_quiet (fail)
      have HB1 := Lib.hid (below_drewN HB0.out nq)
      have b0 : (w0.drewN nq).cell? ⟨w.heap.size, 0, none⟩ = some (.int .u8 kd) := a0
      have b1 : (w0.drewN nq).cell? ⟨w.heap.size, 1, none⟩ = some (.slice AI nI cI) := a1
      have b2 : (w0.drewN nq).cell? ⟨w.heap.size, 2, none⟩ = some (.slice AK nK cK) := a2
      have b3 : (w0.drewN nq).cell? ⟨w.heap.size, 3, none⟩ = some (.slice AV nV cV) := a3
      clear a0 a1 a2 a3 HB0 HR0
      generalize World.drewN _ _ = W1 at *
      have q1 : ((kd : Int) == 1) = true := by rw [H1.out]; rfl
      go_wp2_with fail
      go_ret
      exact ⟨by rw [HX.out]; rfl, HB1.out⟩
  by_cases h2 : kd = 2
  · by_cases c1 : nI = 0
    · have snI : ((nI : Int) == 0) = true := by rw [beq_iff_eq]; omega
      by_cases c2 : nV = 0
      · have snV : ((nV : Int) == 0) = true := by rw [beq_iff_eq]; omega
        have HQ := Lib.hid (fun w => rightCount_any nK w)
        have HX := Lib.hid (show R = (okCount nK && rtK none K) by rw [← HR.out]; simp [h1, h2, c1, c2])
        clear HR c1 c2
        generalize okCount nK = p at *
        generalize rtK none K = q at *
        cases p
        · have H1 := Lib.hid h1
          clear h1
          have H2 := Lib.hid h2
          clear h2
          go_enter Tryz.func81, Tryz.ntmps81
          go_wp2_with fail
          generalize w.alloc _ = w0 at *
          have a0 : w0.cell? ⟨w.heap.size, 0, none⟩ = some (.int .u8 kd) := cell_of_row _ _ 0 _ _ _ HR0.out
          have a1 : w0.cell? ⟨w.heap.size, 1, none⟩ = some (.slice AI nI cI) := cell_of_row _ _ 1 _ _ _ HR0.out
          have a2 : w0.cell? ⟨w.heap.size, 2, none⟩ = some (.slice AK nK cK) := cell_of_row _ _ 2 _ _ _ HR0.out
          have a3 : w0.cell? ⟨w.heap.size, 3, none⟩ = some (.slice AV nV cV) := cell_of_row _ _ 3 _ _ _ HR0.out
          go_quiet (fail)
          have HB1 := Lib.hid (below_drewN HB0.out nq)
          have b0 : (w0.drewN nq).cell? ⟨w.heap.size, 0, none⟩ = some (.int .u8 kd) := a0
          have b1 : (w0.drewN nq).cell? ⟨w.heap.size, 1, none⟩ = some (.slice AI nI cI) := a1
          have b2 : (w0.drewN nq).cell? ⟨w.heap.size, 2, none⟩ = some (.slice AK nK cK) := a2
          have b3 : (w0.drewN nq).cell? ⟨w.heap.size, 3, none⟩ = some (.slice AV nV cV) := a3
          clear a0 a1 a2 a3 HB0 HR0
          generalize World.drewN _ _ = W1 at *
          have q1 : ((kd : Int) == 1) = false := by rw [beq_eq_false_iff_ne]; have := H1.out; omega
          have q2 : ((kd : Int) == 2) = true := by rw [H2.out]; rfl
          go_wp2_with (first | (go_at_call 105; refine (HQ.out _).mono ?_; rintro e w' ⟨rfl, rfl⟩))
          go_ret
          exact ⟨by rw [HX.out]; rfl, HB1.out⟩
        · cases q
          · have H1 := Lib.hid h1
            clear h1
            have H2 := Lib.hid h2
            clear h2
            go_enter Tryz.func81, Tryz.ntmps81
            go_wp2_with fail
            generalize w.alloc _ = w0 at *
            have a0 : w0.cell? ⟨w.heap.size, 0, none⟩ = some (.int .u8 kd) := cell_of_row _ _ 0 _ _ _ HR0.out
            have a1 : w0.cell? ⟨w.heap.size, 1, none⟩ = some (.slice AI nI cI) := cell_of_row _ _ 1 _ _ _ HR0.out
            have a2 : w0.cell? ⟨w.heap.size, 2, none⟩ = some (.slice AK nK cK) := cell_of_row _ _ 2 _ _ _ HR0.out
            have a3 : w0.cell? ⟨w.heap.size, 3, none⟩ = some (.slice AV nV cV) := cell_of_row _ _ 3 _ _ _ HR0.out
            go_quiet (fail)
            have HB1 := Lib.hid (below_drewN HB0.out nq)
            have b0 : (w0.drewN nq).cell? ⟨w.heap.size, 0, none⟩ = some (.int .u8 kd) := a0
            have b1 : (w0.drewN nq).cell? ⟨w.heap.size, 1, none⟩ = some (.slice AI nI cI) := a1
            have b2 : (w0.drewN nq).cell? ⟨w.heap.size, 2, none⟩ = some (.slice AK nK cK) := a2
            have b3 : (w0.drewN nq).cell? ⟨w.heap.size, 3, none⟩ = some (.slice AV nV cV) := a3
            clear a0 a1 a2 a3 HB0 HR0
            generalize World.drewN _ _ = W1 at *
            have q1 : ((kd : Int) == 1) = false := by rw [beq_eq_false_iff_ne]; have := H1.out; omega
            have q2 : ((kd : Int) == 2) = true := by rw [H2.out]; rfl
            go_wp2_with (first | (go_at_call 105; refine (HQ.out _).mono ?_; rintro e w' ⟨rfl, rfl⟩) | (go_at_call 107; refine (HCK.out _ HB1.out).mono ?_; rintro e w3 ⟨rfl, hb3⟩))
            go_ret
            exact ⟨by rw [HX.out]; rfl, HB1.out.trans (hb3.mono HB1.out.size)⟩
          · have H1 := Lib.hid h1
            clear h1
            have H2 := Lib.hid h2
            clear h2
            go_enter Tryz.func81, Tryz.ntmps81
            go_wp2_with fail
            generalize w.alloc _ = w0 at *
            have a0 : w0.cell? ⟨w.heap.size, 0, none⟩ = some (.int .u8 kd) := cell_of_row _ _ 0 _ _ _ HR0.out
            have a1 : w0.cell? ⟨w.heap.size, 1, none⟩ = some (.slice AI nI cI) := cell_of_row _ _ 1 _ _ _ HR0.out
            have a2 : w0.cell? ⟨w.heap.size, 2, none⟩ = some (.slice AK nK cK) := cell_of_row _ _ 2 _ _ _ HR0.out
            have a3 : w0.cell? ⟨w.heap.size, 3, none⟩ = some (.slice AV nV cV) := cell_of_row _ _ 3 _ _ _ HR0.out
            go_quiet (fail)
            have HB1 := Lib.hid (below_drewN HB0.out nq)
            have b0 : (w0.drewN nq).cell? ⟨w.heap.size, 0, none⟩ = some (.int .u8 kd) := a0
            have b1 : (w0.drewN nq).cell? ⟨w.heap.size, 1, none⟩ = some (.slice AI nI cI) := a1
            have b2 : (w0.drewN nq).cell? ⟨w.heap.size, 2, none⟩ = some (.slice AK nK cK) := a2
            have b3 : (w0.drewN nq).cell? ⟨w.heap.size, 3, none⟩ = some (.slice AV nV cV) := a3
            clear a0 a1 a2 a3 HB0 HR0
            generalize World.drewN _ _ = W1 at *
            have q1 : ((kd : Int) == 1) = false := by rw [beq_eq_false_iff_ne]; have := H1.out; omega
            have q2 : ((kd : Int) == 2) = true := by rw [H2.out]; rfl
            go_wp2_with (first | (go_at_call 105; refine (HQ.out _).mono ?_; rintro e w' ⟨rfl, rfl⟩) | (go_at_call 107; refine (HCK.out _ HB1.out).mono ?_; rintro e w3 ⟨rfl, hb3⟩))
            go_ret
            exact ⟨by rw [HX.out]; rfl, HB1.out.trans (hb3.mono HB1.out.size)⟩
      · have snV : ((nV : Int) == 0) = false := by rw [beq_eq_false_iff_ne]; omega
        have HX := Lib.hid (show R = false by rw [← HR.out]; simp [h1, h2, c1, c2])
        clear HR c1 c2
        have H1 := Lib.hid h1
        clear h1
        have H2 := Lib.hid h2
        clear h2
        go_enter Tryz.func81, Tryz.ntmps81
        go_wp2_with fail
        generalize w.alloc _ = w0 at *
        have a0 : w0.cell? ⟨w.heap.size, 0, none⟩ = some (.int .u8 kd) := cell_of_row _ _ 0 _ _ _ HR0.out
        have a1 : w0.cell? ⟨w.heap.size, 1, none⟩ = some (.slice AI nI cI) := cell_of_row _ _ 1 _ _ _ HR0.out
        have a2 : w0.cell? ⟨w.heap.size, 2, none⟩ = some (.slice AK nK cK) := cell_of_row _ _ 2 _ _ _ HR0.out
        have a3 : w0.cell? ⟨w.heap.size, 3, none⟩ = some (.slice AV nV cV) := cell_of_row _ _ 3 _ _ _ HR0.out
        go_quiet (fail)
        have HB1 := Lib.hid (below_drewN HB0.out nq)
        have b0 : (w0.drewN nq).cell? ⟨w.heap.size, 0, none⟩ = some (.int .u8 kd) := a0
        have b1 : (w0.drewN nq).cell? ⟨w.heap.size, 1, none⟩ = some (.slice AI nI cI) := a1
        have b2 : (w0.drewN nq).cell? ⟨w.heap.size, 2, none⟩ = some (.slice AK nK cK) := a2
        have b3 : (w0.drewN nq).cell? ⟨w.heap.size, 3, none⟩ = some (.slice AV nV cV) := a3
        clear a0 a1 a2 a3 HB0 HR0
        generalize World.drewN _ _ = W1 at *
        have q1 : ((kd : Int) == 1) = false := by rw [beq_eq_false_iff_ne]; have := H1.out; omega
        have q2 : ((kd : Int) == 2) = true := by rw [H2.out]; rfl
        go_wp2_with fail
        go_ret
        exact ⟨by rw [HX.out]; rfl, HB1.out⟩
    · have snI : ((nI : Int) == 0) = false := by rw [beq_eq_false_iff_ne]; omega
      have HX := Lib.hid (show R = false by rw [← HR.out]; simp [h1, h2, c1])
      clear HR c1
      have H1 := Lib.hid h1
      clear h1
      have H2 := Lib.hid h2
      clear h2
      go_enter Tryz.func81, Tryz.ntmps81
      go_wp2_with fail
      generalize w.alloc _ = w0 at *
      have a0 : w0.cell? ⟨w.heap.size, 0, none⟩ = some (.int .u8 kd) := cell_of_row _ _ 0 _ _ _ HR0.out
      have a1 : w0.cell? ⟨w.heap.size, 1, none⟩ = some (.slice AI nI cI) := cell_of_row _ _ 1 _ _ _ HR0.out
      have a2 : w0.cell? ⟨w.heap.size, 2, none⟩ = some (.slice AK nK cK) := cell_of_row _ _ 2 _ _ _ HR0.out
      have a3 : w0.cell? ⟨w.heap.size, 3, none⟩ = some (.slice AV nV cV) := cell_of_row _ _ 3 _ _ _ HR0.out
      go_quiet (fail)
      have HB1 := Lib.hid (below_drewN HB0.out nq)
      have b0 : (w0.drewN nq).cell? ⟨w.heap.size, 0, none⟩ = some (.int .u8 kd) := a0
      have b1 : (w0.drewN nq).cell? ⟨w.heap.size, 1, none⟩ = some (.slice AI nI cI) := a1
      have b2 : (w0.drewN nq).cell? ⟨w.heap.size, 2, none⟩ = some (.slice AK nK cK) := a2
      have b3 : (w0.drewN nq).cell? ⟨w.heap.size, 3, none⟩ = some (.slice AV nV cV) := a3
      clear a0 a1 a2 a3 HB0 HR0
      generalize World.drewN _ _ = W1 at *
      have q1 : ((kd : Int) == 1) = false := by rw [beq_eq_false_iff_ne]; have := H1.out; omega
      have q2 : ((kd : Int) == 2) = true := by rw [H2.out]; rfl
      go_wp2_with fail
      go_ret
      exact ⟨by rw [HX.out]; rfl, HB1.out⟩
  by_cases h3 : kd = 3
  · by_cases c1 : nI = 0
    · have snI : ((nI : Int) == 0) = true := by rw [beq_iff_eq]; omega
      by_cases c2 : nK = 0
      · have snK : ((nK : Int) == 0) = true := by rw [beq_iff_eq]; omega
        by_cases c3 : nV ≤ 6
        · have s3 : decide ((nV : Int) ≤ 6) = true := by rw [decide_eq_true_iff]; omega
          have HX := Lib.hid (show R = rtV none V by rw [← HR.out]; simp [h1, h2, h3, c1, c2, c3])
          clear HR c1 c2 c3
          generalize rtV none V = q at *
          cases q
          · have H1 := Lib.hid h1
            clear h1
            have H2 := Lib.hid h2
            clear h2
            have H3 := Lib.hid h3
            clear h3
            go_enter Tryz.func81, Tryz.ntmps81
            go_wp2_with fail
            generalize w.alloc _ = w0 at *
            have a0 : w0.cell? ⟨w.heap.size, 0, none⟩ = some (.int .u8 kd) := cell_of_row _ _ 0 _ _ _ HR0.out
            have a1 : w0.cell? ⟨w.heap.size, 1, none⟩ = some (.slice AI nI cI) := cell_of_row _ _ 1 _ _ _ HR0.out
            have a2 : w0.cell? ⟨w.heap.size, 2, none⟩ = some (.slice AK nK cK) := cell_of_row _ _ 2 _ _ _ HR0.out
            have a3 : w0.cell? ⟨w.heap.size, 3, none⟩ = some (.slice AV nV cV) := cell_of_row _ _ 3 _ _ _ HR0.out
            go_quiet (fail)
            have HB1 := Lib.hid (below_drewN HB0.out nq)
            have b0 : (w0.drewN nq).cell? ⟨w.heap.size, 0, none⟩ = some (.int .u8 kd) := a0
            have b1 : (w0.drewN nq).cell? ⟨w.heap.size, 1, none⟩ = some (.slice AI nI cI) := a1
            have b2 : (w0.drewN nq).cell? ⟨w.heap.size, 2, none⟩ = some (.slice AK nK cK) := a2
            have b3 : (w0.drewN nq).cell? ⟨w.heap.size, 3, none⟩ = some (.slice AV nV cV) := a3
            clear a0 a1 a2 a3 HB0 HR0
            generalize World.drewN _ _ = W1 at *
            have q1 : ((kd : Int) == 1) = false := by rw [beq_eq_false_iff_ne]; have := H1.out; omega
            have q2 : ((kd : Int) == 2) = false := by rw [beq_eq_false_iff_ne]; have := H2.out; omega
            have q3 : ((kd : Int) == 3) = true := by rw [H3.out]; rfl
            go_wp2_with (first | (go_at_call 108; refine (HCV.out _ HB1.out).mono ?_; rintro e w3 ⟨rfl, hb3⟩))
            go_ret
            exact ⟨by rw [HX.out]; rfl, HB1.out.trans (hb3.mono HB1.out.size)⟩
          · have H1 := Lib.hid h1
            clear h1
            have H2 := Lib.hid h2
            clear h2
            have H3 := Lib.hid h3
            clear h3
            go_enter Tryz.func81, Tryz.ntmps81
            go_wp2_with fail
            generalize w.alloc _ = w0 at *
            have a0 : w0.cell? ⟨w.heap.size, 0, none⟩ = some (.int .u8 kd) := cell_of_row _ _ 0 _ _ _ HR0.out
            have a1 : w0.cell? ⟨w.heap.size, 1, none⟩ = some (.slice AI nI cI) := cell_of_row _ _ 1 _ _ _ HR0.out
            have a2 : w0.cell? ⟨w.heap.size, 2, none⟩ = some (.slice AK nK cK) := cell_of_row _ _ 2 _ _ _ HR0.out
            have a3 : w0.cell? ⟨w.heap.size, 3, none⟩ = some (.slice AV nV cV) := cell_of_row _ _ 3 _ _ _ HR0.out
            go_quiet (fail)
            have HB1 := Lib.hid (below_drewN HB0.out nq)
            have b0 : (w0.drewN nq).cell? ⟨w.heap.size, 0, none⟩ = some (.int .u8 kd) := a0
            have b1 : (w0.drewN nq).cell? ⟨w.heap.size, 1, none⟩ = some (.slice AI nI cI) := a1
            have b2 : (w0.drewN nq).cell? ⟨w.heap.size, 2, none⟩ = some (.slice AK nK cK) := a2
            have b3 : (w0.drewN nq).cell? ⟨w.heap.size, 3, none⟩ = some (.slice AV nV cV) := a3
            clear a0 a1 a2 a3 HB0 HR0
            generalize World.drewN _ _ = W1 at *
            have q1 : ((kd : Int) == 1) = false := by rw [beq_eq_false_iff_ne]; have := H1.out; omega
            have q2 : ((kd : Int) == 2) = false := by rw [beq_eq_false_iff_ne]; have := H2.out; omega
            have q3 : ((kd : Int) == 3) = true := by rw [H3.out]; rfl
            go_wp2_with (first | (go_at_call 108; refine (HCV.out _ HB1.out).mono ?_; rintro e w3 ⟨rfl, hb3⟩))
            go_ret
            exact ⟨by rw [HX.out]; rfl, HB1.out.trans (hb3.mono HB1.out.size)⟩
        · have s3 : decide ((nV : Int) ≤ 6) = false := by rw [decide_eq_false_iff_not]; omega
          have HX := Lib.hid (show R = false by rw [← HR.out]; simp [h1, h2, h3, c1, c2, c3])
          clear HR c1 c2 c3
          have H1 := Lib.hid h1
          clear h1
          have H2 := Lib.hid h2
          clear h2
          have H3 := Lib.hid h3
          clear h3
          go_enter Tryz.func81, Tryz.ntmps81
          go_wp2_with fail
          generalize w.alloc _ = w0 at *
          have a0 : w0.cell? ⟨w.heap.size, 0, none⟩ = some (.int .u8 kd) := cell_of_row _ _ 0 _ _ _ HR0.out
          have a1 : w0.cell? ⟨w.heap.size, 1, none⟩ = some (.slice AI nI cI) := cell_of_row _ _ 1 _ _ _ HR0.out
          have a2 : w0.cell? ⟨w.heap.size, 2, none⟩ = some (.slice AK nK cK) := cell_of_row _ _ 2 _ _ _ HR0.out
          have a3 : w0.cell? ⟨w.heap.size, 3, none⟩ = some (.slice AV nV cV) := cell_of_row _ _ 3 _ _ _ HR0.out
          go_quiet (fail)
          have HB1 := Lib.hid (below_drewN HB0.out nq)
          have b0 : (w0.drewN nq).cell? ⟨w.heap.size, 0, none⟩ = some (.int .u8 kd) := a0
          have b1 : (w0.drewN nq).cell? ⟨w.heap.size, 1, none⟩ = some (.slice AI nI cI) := a1
          have b2 : (w0.drewN nq).cell? ⟨w.heap.size, 2, none⟩ = some (.slice AK nK cK) := a2
          have b3 : (w0.drewN nq).cell? ⟨w.heap.size, 3, none⟩ = some (.slice AV nV cV) := a3
          clear a0 a1 a2 a3 HB0 HR0
          generalize World.drewN _ _ = W1 at *
          have q1 : ((kd : Int) == 1) = false := by rw [beq_eq_false_iff_ne]; have := H1.out; omega
          have q2 : ((kd : Int) == 2) = false := by rw [beq_eq_false_iff_ne]; have := H2.out; omega
          have q3 : ((kd : Int) == 3) = true := by rw [H3.out]; rfl
          go_wp2_with fail
          go_ret
          exact ⟨by rw [HX.out]; rfl, HB1.out⟩
      · have snK : ((nK : Int) == 0) = false := by rw [beq_eq_false_iff_ne]; omega
        have HX := Lib.hid (show R = false by rw [← HR.out]; simp [h1, h2, h3, c1, c2])
        clear HR c1 c2
        have H1 := Lib.hid h1
        clear h1
        have H2 := Lib.hid h2
        clear h2
        have H3 := Lib.hid h3
        clear h3
        go_enter Tryz.func81, Tryz.ntmps81
        go_wp2_with fail
        generalize w.alloc _ = w0 at *
        have a0 : w0.cell? ⟨w.heap.size, 0, none⟩ = some (.int .u8 kd) := cell_of_row _ _ 0 _ _ _ HR0.out
        have a1 : w0.cell? ⟨w.heap.size, 1, none⟩ = some (.slice AI nI cI) := cell_of_row _ _ 1 _ _ _ HR0.out
        have a2 : w0.cell? ⟨w.heap.size, 2, none⟩ = some (.slice AK nK cK) := cell_of_row _ _ 2 _ _ _ HR0.out
        have a3 : w0.cell? ⟨w.heap.size, 3, none⟩ = some (.slice AV nV cV) := cell_of_row _ _ 3 _ _ _ HR0.out
        go_quiet (fail)
        have HB1 := Lib.hid (below_drewN HB0.out nq)
        have b0 : (w0.drewN nq).cell? ⟨w.heap.size, 0, none⟩ = some (.int .u8 kd) := a0
        have b1 : (w0.drewN nq).cell? ⟨w.heap.size, 1, none⟩ = some (.slice AI nI cI) := a1
        have b2 : (w0.drewN nq).cell? ⟨w.heap.size, 2, none⟩ = some (.slice AK nK cK) := a2
        have b3 : (w0.drewN nq).cell? ⟨w.heap.size, 3, none⟩ = some (.slice AV nV cV) := a3
        clear a0 a1 a2 a3 HB0 HR0
        generalize World.drewN _ _ = W1 at *
        have q1 : ((kd : Int) == 1) = false := by rw [beq_eq_false_iff_ne]; have := H1.out; omega
        have q2 : ((kd : Int) == 2) = false := by rw [beq_eq_false_iff_ne]; have := H2.out; omega
        have q3 : ((kd : Int) == 3) = true := by rw [H3.out]; rfl
        go_wp2_with fail
        go_ret
        exact ⟨by rw [HX.out]; rfl, HB1.out⟩
    · have snI : ((nI : Int) == 0) = false := by rw [beq_eq_false_iff_ne]; omega
      have HX := Lib.hid (show R = false by rw [← HR.out]; simp [h1, h2, h3, c1])
      clear HR c1
      have H1 := Lib.hid h1
      clear h1
      have H2 := Lib.hid h2
      clear h2
      have H3 := Lib.hid h3
      clear h3
      go_enter Tryz.func81, Tryz.ntmps81
      go_wp2_with fail
      generalize w.alloc _ = w0 at *
      have a0 : w0.cell? ⟨w.heap.size, 0, none⟩ = some (.int .u8 kd) := cell_of_row _ _ 0 _ _ _ HR0.out
      have a1 : w0.cell? ⟨w.heap.size, 1, none⟩ = some (.slice AI nI cI) := cell_of_row _ _ 1 _ _ _ HR0.out
      have a2 : w0.cell? ⟨w.heap.size, 2, none⟩ = some (.slice AK nK cK) := cell_of_row _ _ 2 _ _ _ HR0.out
      have a3 : w0.cell? ⟨w.heap.size, 3, none⟩ = some (.slice AV nV cV) := cell_of_row _ _ 3 _ _ _ HR0.out
      go_quiet (fail)
      have HB1 := Lib.hid (below_drewN HB0.out nq)
      have b0 : (w0.drewN nq).cell? ⟨w.heap.size, 0, none⟩ = some (.int .u8 kd) := a0
      have b1 : (w0.drewN nq).cell? ⟨w.heap.size, 1, none⟩ = some (.slice AI nI cI) := a1
      have b2 : (w0.drewN nq).cell? ⟨w.heap.size, 2, none⟩ = some (.slice AK nK cK) := a2
      have b3 : (w0.drewN nq).cell? ⟨w.heap.size, 3, none⟩ = some (.slice AV nV cV) := a3
      clear a0 a1 a2 a3 HB0 HR0
      generalize World.drewN _ _ = W1 at *
      have q1 : ((kd : Int) == 1) = false := by rw [beq_eq_false_iff_ne]; have := H1.out; omega
      have q2 : ((kd : Int) == 2) = false := by rw [beq_eq_false_iff_ne]; have := H2.out; omega
      have q3 : ((kd : Int) == 3) = true := by rw [H3.out]; rfl
      go_wp2_with fail
      go_ret
      exact ⟨by rw [HX.out]; rfl, HB1.out⟩
  · have HX := Lib.hid (show R = false by rw [← HR.out]; simp [h1, h2, h3])
    clear HR
    have H1 := Lib.hid h1
    clear h1
    have H2 := Lib.hid h2
    clear h2
    have H3 := Lib.hid h3
    clear h3
    go_enter Tryz.func81, Tryz.ntmps81
    go_wp2_with fail
    generalize w.alloc _ = w0 at *
    have a0 : w0.cell? ⟨w.heap.size, 0, none⟩ = some (.int .u8 kd) := cell_of_row _ _ 0 _ _ _ HR0.out
    have a1 : w0.cell? ⟨w.heap.size, 1, none⟩ = some (.slice AI nI cI) := cell_of_row _ _ 1 _ _ _ HR0.out
    have a2 : w0.cell? ⟨w.heap.size, 2, none⟩ = some (.slice AK nK cK) := cell_of_row _ _ 2 _ _ _ HR0.out
    have a3 : w0.cell? ⟨w.heap.size, 3, none⟩ = some (.slice AV nV cV) := cell_of_row _ _ 3 _ _ _ HR0.out
    go_quiet (fail)
    have HB1 := Lib.hid (below_drewN HB0.out nq)
    have b0 : (w0.drewN nq).cell? ⟨w.heap.size, 0, none⟩ = some (.int .u8 kd) := a0
    have b1 : (w0.drewN nq).cell? ⟨w.heap.size, 1, none⟩ = some (.slice AI nI cI) := a1
    have b2 : (w0.drewN nq).cell? ⟨w.heap.size, 2, none⟩ = some (.slice AK nK cK) := a2
    have b3 : (w0.drewN nq).cell? ⟨w.heap.size, 3, none⟩ = some (.slice AV nV cV) := a3
    clear a0 a1 a2 a3 HB0 HR0
    generalize World.drewN _ _ = W1 at *
    have q1 : ((kd : Int) == 1) = false := by rw [beq_eq_false_iff_ne]; have := H1.out; omega
    have q2 : ((kd : Int) == 2) = false := by rw [beq_eq_false_iff_ne]; have := H2.out; omega
    have q3 : ((kd : Int) == 3) = false := by rw [beq_eq_false_iff_ne]; have := H3.out; omega
    go_wp2_with fail
    go_ret
    exact ⟨by rw [HX.out]; rfl, HB1.out⟩
set_option maxRecDepth 100000 in
set_option maxHeartbeats 4000000 in
theorem check_any (n : Nd) (hw : Wd n) (cs : Array Value) (w : World) (hn : NdAt w cs n) :
    Calls Tryz.prog 55 #[.agg cs] w fun e w' => e = .returned (.int .i64 (ckN n)) ∧ Below w.heap.size w w' := by
  have hcz := hn.size
  have HI := Lib.hid (show (Tryz.prog.info? 31).map (·.size) = some cs.size by rw [hcz]; kernel_rfl)
  have hb0 : Below w.heap.size w (w.alloc (.cells cs 31)) := (Below.refl _ _).alloc (Nat.le_refl _) _
  have HB0 := Lib.hid hb0
  have HR0 := Lib.hid (heap_alloc_new w (.cells cs 31))
  have HN := Lib.hid hn
  have HC1 := Lib.hid (fun w' (hb : Below w.heap.size w w') => right_any n hw cs w' (hn.below hb))
  clear hb0 hcz
  by_cases hr : rtN n = true
  · have HC2 := Lib.hid (fun w' (hb : Below w.heap.size w w') => size_any n (rt_few hr) cs w' (hn.below hb))
    rw [hr] at HC1
    obtain ⟨C, hC⟩ : ∃ C, ckN n = C := ⟨_, rfl⟩
    have HX := Lib.hid (show C = if 508 < szN n then 2 else 0 by rw [← hC]; unfold ckN; rw [if_pos hr])
    rw [hC]
    clear hC hr hn
    generalize szN n = Z at *
    by_cases hz : 508 < Z
    · have q : decide ((508 : Int) < (Z : Int)) = true := by rw [decide_eq_true_iff]; omega
      have HX2 := Lib.hid (show C = 2 by rw [HX.out, if_pos hz])
      clear HX hz
      go_enter Tryz.func55, Tryz.ntmps55
      go_wp2_with (first
        | (refine wpList_load_row rfl 31 (.tmp 1) rfl w.heap.size rfl 31 cs (0, 0) _ HR0.out Tryz.underlying31 rfl HI.out ?_)
        | (go_at_call 81; refine (HC1.out _ HB0.out).mono ?_; rintro e w3 ⟨rfl, hb3⟩; have HB3 := Lib.hid (HB0.out.trans (hb3.mono HB0.out.size)); have HR3 := Lib.hid ((hb3.block _ (row_lt HR0.out)).trans HR0.out); clear hb3)
        | (refine wpList_load_row rfl 31 (.tmp 1) rfl w.heap.size rfl 31 cs (0, 0) _ HR3.out Tryz.underlying31 rfl HI.out ?_)
        | (go_at_call 82; refine (HC2.out _ HB3.out).mono ?_; rintro e w4 ⟨rfl, hb4, hz4⟩; have HB4 := Lib.hid (HB3.out.trans (hb4.mono HB3.out.size)); clear hb4))
      go_ret
      exact ⟨by rw [HX2.out]; rfl, HB4.out⟩
    · have q : decide ((508 : Int) < (Z : Int)) = false := by rw [decide_eq_false_iff_not]; omega
      have HX2 := Lib.hid (show C = 0 by rw [HX.out, if_neg hz])
      clear HX hz
      go_enter Tryz.func55, Tryz.ntmps55
      go_wp2_with (first
        | (refine wpList_load_row rfl 31 (.tmp 1) rfl w.heap.size rfl 31 cs (0, 0) _ HR0.out Tryz.underlying31 rfl HI.out ?_)
        | (go_at_call 81; refine (HC1.out _ HB0.out).mono ?_; rintro e w3 ⟨rfl, hb3⟩; have HB3 := Lib.hid (HB0.out.trans (hb3.mono HB0.out.size)); have HR3 := Lib.hid ((hb3.block _ (row_lt HR0.out)).trans HR0.out); clear hb3)
        | (refine wpList_load_row rfl 31 (.tmp 1) rfl w.heap.size rfl 31 cs (0, 0) _ HR3.out Tryz.underlying31 rfl HI.out ?_)
        | (go_at_call 82; refine (HC2.out _ HB3.out).mono ?_; rintro e w4 ⟨rfl, hb4, hz4⟩; have HB4 := Lib.hid (HB3.out.trans (hb4.mono HB3.out.size)); clear hb4))
      go_ret
      exact ⟨by rw [HX2.out]; rfl, HB4.out⟩
  · have hr : rtN n = false := by simpa using hr
    rw [hr] at HC1
    have HX2 := Lib.hid (show ckN n = 4 by unfold ckN; rw [hr]; rfl)
    rw [HX2.out]
    clear hr hn
    go_enter Tryz.func55, Tryz.ntmps55
    go_wp2_with (first
      | (refine wpList_load_row rfl 31 (.tmp 1) rfl w.heap.size rfl 31 cs (0, 0) _ HR0.out Tryz.underlying31 rfl HI.out ?_)
      | (go_at_call 81; refine (HC1.out _ HB0.out).mono ?_; rintro e w3 ⟨rfl, hb3⟩))
    go_ret
    exact ⟨rfl, HB0.out.trans (hb3.mono HB0.out.size)⟩
end Go.Proofs.YtlpejbbmemhloaaGreatDoor.Nd
