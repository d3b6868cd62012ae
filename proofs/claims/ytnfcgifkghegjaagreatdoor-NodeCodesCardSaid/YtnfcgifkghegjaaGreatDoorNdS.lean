/- Contracts of package node's filled, sealed, Seal. -/
import Derived.Test.YtnfcgifkghegjaaGreatDoorNdA
import Derived.Test.YtnfcgifkghegjaaGreatDoorShf
import Derived.Test.YtnfcgifkghegjaaGreatDoorSum
import Derived.Test.YtnfcgifkghegjaaGreatDoorTrm
namespace Go.Proofs.YtnfcgifkghegjaaGreatDoor.Nd
set_option linter.unusedVariables false
open Go.ChangeShapes Go.WideShapes Go.ChangeAt Go.RowKit
open Pk (be num be_length crc psum_any)
theorem repeat_zero : ∀ c : Nat, Lib.repeatL [(0 : UInt8)] c = List.replicate c 0
  | 0 => rfl
  | c + 1 => by rw [List.replicate_succ, ← repeat_zero c]; rfl
theorem repeat_any (c : Nat) (h : c ≤ 512) (w : World) :
    Calls Tryz.prog 61 #[.string ⟨#[0]⟩, .int .i64 c] w fun e w' => e = .returned (.string (bs (List.replicate c 0))) ∧ Below w.heap.size w w' := by
  have := Tryz.strings_Repeat ⟨#[0]⟩ c w (by omega) (by show 1 * c ≤ _; omega)
  rw [show (⟨#[0]⟩ : ByteArray).data.toList = [0] from rfl, repeat_zero] at this
  exact this
theorem filled_any (s : ByteArray) (m : Nat) (h : s.size ≤ m) (hm : m ≤ 512) (w : World) :
    Calls Tryz.prog 41 #[.string s, .int .i64 m] w fun e w' => e = .returned (.string (bs (fillz s.data.toList m))) ∧ Below w.heap.size w w' := by
  have hX : bs (fillz s.data.toList m) = s ++ bs (List.replicate (m - s.size) 0) := by
    unfold fillz
    rw [← bs_app, data_bs]
    have e : s.data.toList.length = s.size := Array.length_toList
    rw [e]
  rw [hX]
  clear hX
  obtain ⟨c, hc⟩ : ∃ c, m = s.size + c := ⟨m - s.size, by omega⟩
  subst hc
  rw [show s.size + c - s.size = c by omega]
  have HC := Lib.hid (fun w => repeat_any c (by omega) w)
  have e1 : ((s.size + c : Nat) : Int) - (s.size : Int) = (c : Int) := by omega
  have hz : (bs (List.replicate c 0)).size ≤ 512 := by rw [bs_size, List.length_replicate]; omega
  have hs : s.size ≤ 512 := by omega
  rw [show ((s.size + c : Nat) : Int) = (s.size : Int) + (c : Int) by omega] at e1 ⊢
  have hc5 : c ≤ 512 := by omega
  clear h hm
  generalize bs (List.replicate c 0) = R at *
  go_enter Tryz.func41, Tryz.ntmps41
  go_wp2_with (go_at_call 61; refine (HC.out _).mono ?_; rintro e w' ⟨rfl, hb⟩)
  go_ret
  exact ⟨rfl, hb⟩
theorem cutB_bs (l : List UInt8) : Tm.cutB (bs l) = bs (cutz l) := rfl
theorem sum_le (l : List UInt8) : (crc l).toNat < 256 ^ 4 := (crc l).isLt
theorem sealed_any (s : ByteArray) (h : s.size ≤ 508) (w : World) :
    Calls Tryz.prog 32 #[.string s] w fun e w' => e = .returned (.string (bs (sealL s.data.toList))) ∧ Below w.heap.size w w' := by
  have hF := fillz_len (l := s.data.toList) (m := 508) (by rw [Array.length_toList]; exact h)
  have HF := Lib.hid (fun w => filled_any s 508 h (by omega) w)
  have hX : sealL s.data.toList = cutz (be 4 (crc (fillz s.data.toList 508)).toNat ++ fillz s.data.toList 508) := rfl
  rw [hX]
  clear hX
  generalize fillz s.data.toList 508 = F at *
  have HS := Lib.hid (show ∀ w, Calls Tryz.prog 43 #[.string (bs F)] w fun e w' => e = .returned (.int .u32 ((crc F).toNat : Nat)) ∧ Below w.heap.size w w' from fun w => psum_any (bs F) w (by rw [bs_size]; omega))
  have HN := Lib.hid (fun w => number_be (crc F).toNat 4 w (by omega) (by omega) (sum_le F))
  have hlt : (crc F).toNat < 4294967296 := (crc F).isLt
  have HT := Lib.hid (show ∀ w, Calls Tryz.prog 57 #[.string (bs (be 4 (crc F).toNat) ++ bs F), .string ⟨#[0]⟩] w fun e w' => e = .returned (.string (bs (cutz (be 4 (crc F).toNat ++ F)))) ∧ w = w' from fun w => by
    rw [bs_app]
    exact Tm.trimRight_any (bs (be 4 (crc F).toNat ++ F)) (by rw [bs_size, List.length_append, be_length]; omega) w)
  have hz1 : (bs (be 4 (crc F).toNat)).size ≤ 4 := by rw [bs_size, be_length]; omega
  have hz2 : (bs F).size ≤ 508 := by rw [bs_size]; omega
  generalize (crc F).toNat = C at *
  generalize bs (be 4 C) = S4 at *
  generalize bs (cutz (be 4 C ++ F)) = R at *
  generalize bs F = FB at *
  clear hF
  go_enter Tryz.func32, Tryz.ntmps32
  go_wp2_with fail
  go_at_call 41
  refine (HF.out _).mono ?_
  rintro e w1 ⟨rfl, hb1⟩
  have B1 := Lib.hid hb1
  clear hb1
  go_wp2_with fail
  go_at_call 43
  refine (HS.out _).mono ?_
  rintro e w2 ⟨rfl, hb2⟩
  have B2 := Lib.hid (B1.out.trans (hb2.mono B1.out.size))
  clear hb2 B1
  go_wp2_with fail
  go_at_call 34
  refine (HN.out _).mono ?_
  rintro e w3 ⟨rfl, hb3⟩
  have B3 := Lib.hid (B2.out.trans (hb3.mono B2.out.size))
  clear hb3 B2
  go_wp2_with fail
  go_at_call 57
  refine (HT.out _).mono ?_
  rintro e w4 ⟨rfl, rfl⟩
  go_wp2_with fail
  go_ret
  exact ⟨rfl, B3.out⟩
/-- Seal: bytes as a block has them; none, if they are too many -/
def slE (n : Nat) : Int := if 508 < n then 2 else 0
def slB (s : ByteArray) : ByteArray := if 508 < s.size then ByteArray.empty else bs (sealL s.data.toList)
theorem seal_any (s : ByteArray) (w : World) :
    Calls Tryz.prog 16 #[.string s] w fun e w' => e = .returned (.tuple #[.string (slB s), .int .i64 (slE s.size)]) ∧ Below w.heap.size w w' := by
  by_cases h : 508 < s.size
  · have HB := Lib.hid (show slB s = ByteArray.empty by unfold slB; rw [if_pos h])
    have HE := Lib.hid (show slE s.size = 2 by unfold slE; rw [if_pos h])
    rw [HB.out, HE.out]
    have q : decide ((508 : Int) < (s.size : Int)) = true := by rw [decide_eq_true_iff]; omega
    clear h
    go_enter Tryz.func16, Tryz.ntmps16
    go_wp2
    go_ret2
    exact ⟨rfl, Below.refl _ _⟩
  · have HB := Lib.hid (show slB s = bs (sealL s.data.toList) by unfold slB; rw [if_neg h])
    have HE := Lib.hid (show slE s.size = 0 by unfold slE; rw [if_neg h])
    rw [HB.out, HE.out]
    have q : decide ((508 : Int) < (s.size : Int)) = false := by rw [decide_eq_false_iff_not]; omega
    have HC := Lib.hid (fun w => sealed_any s (by omega) w)
    generalize bs (sealL s.data.toList) = R at *
    clear h
    go_enter Tryz.func16, Tryz.ntmps16
    go_wp2_with (go_at_call 32; refine (HC.out _).mono ?_; rintro e w' ⟨rfl, hb⟩)
    go_ret2
    exact ⟨rfl, hb⟩
end Go.Proofs.YtnfcgifkghegjaaGreatDoor.Nd
