/- Contract of the document's own padding (cambiumref02.padded). -/
import Derived.Test.YtglciacjfoimlaaDoorRefP
namespace Go.Proofs.YtglciacjfoimlaaDoor.Hk
set_option linter.unusedVariables false
open Go.ChangeShapes Go.WideShapes Go.ChangeAt Go.RowKit
open Pk (be be_length u8s u8s_length u8s_set u8s_get)
theorem conv_one (W : World) (b : UInt8) : (convert 40 9 (.slice (some ⟨W.heap.size, 0, none⟩) 1 1)).run Tryd.prog (W.alloc (.cells #[.int .u8 (b.toNat : Int)] 5)) = .ok (.string ⟨#[b]⟩) (W.alloc (.cells #[.int .u8 (b.toNat : Int)] 5)) :=
  run_convert_bytes_back (P := Tryd.prog) (W.alloc (.cells #[.int .u8 (b.toNat : Int)] 5)) 40 9 5 ⟨W.heap.size, 0, none⟩ 1 [b] Tryd.underlying40 Tryd.underlying5 Tryd.underlying9 (by
    intro j hj
    match j, hj with
    | 0, hj => simp [Addr.add])
theorem list_of {S : ByteArray} {l : List UInt8} (h : S.data.toList = l) : S = ⟨l.toArray⟩ := by
  apply ByteArray.ext
  rw [← h, Array.toArray_toList]
theorem add_one {S : ByteArray} {l : List UInt8} (h : S.data.toList = l) (b : UInt8) : (S ++ (⟨#[b]⟩ : ByteArray)).data.toList = l ++ [b] := by
  rw [ByteArray.data_append, Array.toList_append, h]
theorem len_of {S : ByteArray} {l : List UInt8} (h : S.data.toList = l) : S.size = l.length := by rw [← h]; simp
theorem be_top (n i : Nat) (h : i < 8) : be i (n / 256 ^ (8 - i)) ++ [UInt8.ofNat (n / 256 ^ (7 - i))] = be (i + 1) (n / 256 ^ (8 - (i + 1))) := by
  rw [be, Nat.div_div_eq_div_mul, ← Nat.pow_succ, show 8 - (i + 1) = 7 - i by omega, show (7 - i).succ = 8 - i by omega]
theorem top_val (n i : Nat) (h : i < 8) : ((UInt8.ofNat (n * 8 / 256 ^ (7 - i))).toNat : Int) = (n : Int) * 8 / 2 ^ (56 - 8 * i) % 256 := by
  rw [show 56 - 8 * i = 8 * (7 - i) by omega, ← Pk.pow_256]
  simp
def strLen : Value → Nat
  | .string S => S.size
  | _ => 0
set_option maxRecDepth 100000 in
set_option maxHeartbeats 1000000 in
theorem padded_any (x : ByteArray) (hx : x.size ≤ 140737488351232) (w : World) :
    Calls Tryd.prog 19 #[.string x] w fun e w' => e = .returned (.string ⟨(x.data.toList ++ padL x.size).toArray⟩) ∧ Below w.heap.size w w' := by
  obtain ⟨z, hz⟩ : ∃ z, z = padZ x.size := ⟨_, rfl⟩
  have hz1 : z = (119 - x.size % 64) % 64 := hz
  have HZ := Lib.hid hz
  have HY := Lib.hid hz1
  clear hz hz1
  go_enter Tryd.func19, Tryd.ntmps19
  go_wp2
  go_loopw [0] (fun a wr => ∃ S : ByteArray, ∃ j : Nat, j ≤ z ∧ S.data.toList = x.data.toList ++ 128 :: List.replicate j 0 ∧ a = .string S ∧ Below w.heap.size w wr) (fun a _ => z + x.size + 1 - strLen a)
  case atStart => exact ⟨_, 0, Nat.zero_le _, by rw [add_one rfl]; rfl, rfl, Below.refl _ _⟩
  case round =>
    obtain ⟨S, j, hj, hS, rfl, hbel⟩ := hrel
    have hsz : S.size = x.size + 1 + j := by rw [len_of hS]; simp; omega
    have HS := Lib.hid hS
    clear hS
    by_cases hlt : j < z
    · have hne : (S.size : Int) % 64 ≠ 56 := by have := HY.out; omega
      have hz2 : S.size ≤ 140737488351400 := by have := HY.out; omega
      go_wp2
      go_roundw
      case rel => exact ⟨_, j + 1, by omega, by rw [add_one HS.out, List.append_assoc, List.cons_append, ← List.replicate_succ'], rfl, hbel⟩
      case measure =>
        show z + x.size + 1 - (S ++ (⟨#[0]⟩ : ByteArray)).size < z + x.size + 1 - S.size
        rw [ByteArray.size_append, show (⟨#[0]⟩ : ByteArray).size = 1 from rfl]
        omega
    · obtain rfl : j = z := by omega
      have heq : (S.size : Int) % 64 = 56 := by have := HY.out; omega
      have hz2 : S.size ≤ 140737488351400 := by have := HY.out; omega
      have HN := Lib.hid hsz
      clear hsz
      go_wp2
      obtain ⟨S0, rfl⟩ : ∃ S0 : ByteArray, S0 = S := ⟨_, rfl⟩
      obtain ⟨wo, rfl⟩ : ∃ wo : World, wo = wr := ⟨_, rfl⟩
      go_loopw [0, 4] (fun a v wr => ∃ S : ByteArray, ∃ i : Nat, i ≤ 8 ∧ v = .int .i64 i ∧ S.data.toList = S0.data.toList ++ be i (x.size * 8 / 256 ^ (8 - i)) ∧ a = .string S ∧ Below w.heap.size w wr) (fun _ v _ => 8 - (intOf v).toNat)
      case atStart => exact ⟨S0, 0, Nat.zero_le _, rfl, by simp [be], rfl, hbel⟩
      case round =>
        obtain ⟨S, i, hi, rfl, hS, rfl, hbel⟩ := hrel
        have hsz : S.size ≤ 140737488351500 := by rw [len_of hS, List.length_append, be_length]; have : S0.data.toList.length = S0.size := by simp
                                                  omega
        have HT := Lib.hid hS
        clear hS
        by_cases hlt : i < 8
        · have hcv := conv_one wr (UInt8.ofNat (x.size * 8 / 256 ^ (7 - i)))
          have ev := top_val x.size i hlt
          have hb' := Lib.hid (hbel.alloc hbel.size (.cells #[.int .u8 ((UInt8.ofNat (x.size * 8 / 256 ^ (7 - i))).toNat : Int)] 5))
          rw [ev] at hcv hb'
          have hz3 : (⟨#[UInt8.ofNat (x.size * 8 / 256 ^ (7 - i))]⟩ : ByteArray).size ≤ 1 := Nat.le_refl _
          clear ev
          go_wp2
          go_roundw
          case rel => exact ⟨_, i + 1, by omega, by go_num, by rw [add_one HT.out, List.append_assoc, be_top _ _ hlt], rfl, hb'.out⟩
          case measure => simp [intOf]; omega
        · obtain rfl : i = 8 := by omega
          go_wp2
          go_ret
          refine ⟨?_, hbel⟩
          have e : S.data.toList = x.data.toList ++ padL x.size := by
            rw [HT.out, HS.out, List.append_assoc, List.cons_append]
            unfold padL
            rw [HZ.out, Nat.sub_self, Nat.pow_zero, Nat.div_one]
          rw [list_of e]
          rfl
end Go.Proofs.YtglciacjfoimlaaDoor.Hk
