/- The document's own check sum (as NfE, over SumK). -/
import Derived.Test.YtjkmfonngbendaaGreatDoorSumK
namespace Go.Proofs.YtjkmfonngbendaaGreatDoor.Pk
set_option linter.unusedVariables false
open Go.ChangeShapes Go.WideShapes Go.ChangeAt Go.RowKit
theorem decFa {p : Prop} [Decidable p] (h : ¬ p) : decide p = false := decide_eq_false h
theorem msb_hi (x : BitVec 32) (h : x.msb = true) : 2147483648 ≤ vN x := by
  rw [BitVec.msb_eq_decide, decide_eq_true_eq] at h
  unfold vN
  have : 2147483648 ≤ x.toNat := h
  omega
theorem msb_lo (x : BitVec 32) (h : x.msb = false) : vN x < 2147483648 := by
  rw [BitVec.msb_eq_decide, decide_eq_false_iff_not] at h
  unfold vN
  have : ¬ 2147483648 ≤ x.toNat := h
  omega
theorem rsum_any (s : ByteArray) (w : World) (hs : s.size ≤ 281474976710656) :
    Calls Tryz.prog 63 #[.string s] w fun e w' => e = .returned (.int .u32 (vN (crc s.data.toList))) ∧ w = w' := by
  go_enter Tryz.func63, Tryz.ntmps63
  go_wp2
  go_loop [3, 4] (fun t v => ∃ i : Nat, i ≤ s.size ∧ v = .int .i64 i ∧ t = .int .u32 (vN (crc (s.data.toList.take i)))) (fun _ v => s.size - (intOf v).toNat)
  case atStart => exact ⟨0, Nat.zero_le _, rfl, rfl⟩
  case round =>
    obtain ⟨i, hi, rfl, rfl⟩ := hrel
    by_cases hlt : i < s.size
    · obtain ⟨x, hx⟩ : ∃ x, x = crc (s.data.toList.take i) := ⟨_, rfl⟩
      have HT := Lib.hid (show crc (s.data.toList.take (i + 1)) = step x s[i] by rw [take_snoc s i hlt, crc_snoc, hx])
      rw [← hx]
      clear hx
      have h0 := vN_lo x
      have h1 := vN_hi x
      have hb := (s[i]).toNat_lt
      obtain ⟨y, hy⟩ : ∃ y, y = x ^^^ byteAt s[i] := ⟨_, rfl⟩
      have hxb := xor_byte x s[i]
      rw [← hy] at hxb
      have HX := Lib.hid hxb
      have HS := Lib.hid (show step x s[i] = dbls 8 y by rw [hy]; rfl)
      clear hxb hy
      go_wp2
      rw [HX.out]
      go_loop [3, 5] (fun c v => ∃ k : Nat, k ≤ 8 ∧ v = .int .i64 k ∧ c = .int .u32 (vN (dbls k y))) (fun _ v => 8 - (intOf v).toNat)
      case atStart => exact ⟨0, Nat.zero_le _, rfl, rfl⟩
      case round =>
        obtain ⟨k, hk, rfl, rfl⟩ := hrel
        by_cases hlk : k < 8
        · obtain ⟨z, hz⟩ : ∃ z, z = dbls k y := ⟨_, rfl⟩
          have HZ := Lib.hid (show dbls (k + 1) y = dbl z by rw [dbls_succ, hz])
          rw [← hz]
          clear hz
          have z0 := vN_lo z
          have z1 := vN_hi z
          by_cases hm : z.msb = true
          · have hge := msb_hi z hm
            have HD := Lib.hid (dbl_top z hm)
            clear hm
            go_wp2
            go_round
            case rel => exact ⟨k + 1, by omega, by go_num, by rw [HZ.out, ← HD.out]⟩
            case measure => simp [intOf]; omega
          · have hm' : z.msb = false := by simpa using hm
            have hge : decide (2147483648 ≤ vN z) = false := decFa (by have := msb_lo z hm'; omega)
            have HD := Lib.hid (dbl_low z hm')
            clear hm hm'
            go_wp2
            go_round
            case rel => exact ⟨k + 1, by omega, by go_num, by rw [HZ.out, ← HD.out]⟩
            case measure => simp [intOf]; omega
        · obtain rfl : k = 8 := by omega
          go_wp2
          go_round
          case rel => exact ⟨i + 1, by omega, by go_num, by rw [HT.out, HS.out]⟩
          case measure => simp [intOf]; omega
    · obtain rfl : i = s.size := by omega
      have HT : Hid (s.data.toList.take s.size = s.data.toList) := by
        rw [List.take_of_length_le (by simp)]
        exact rfl
      go_wp2
      go_ret
      exact ⟨ret_u32 (by rw [HT.out]), rfl⟩
end Go.Proofs.YtjkmfonngbendaaGreatDoor.Pk
