/- Contracts of package pack's check sum: Sum of any text is the sum as a function on its bytes; what it counts beside is its own. -/
import Derived.Test.YtjkmfonngbendaaGreatDoorCrc
import Derived.Test.YtjkmfonngbendaaGreatDoorSumBaseK
import Derived.Laws.LoneSync
import Derived.Laws.Pointers
namespace Go.Proofs.YtjkmfonngbendaaGreatDoor.Pk
set_option linter.unusedVariables false
open Go.ChangeShapes Go.WideShapes Go.ChangeAt Go.RowKit
theorem dbls_succ (n : Nat) (x : BitVec 32) : dbls (n + 1) x = dbl (dbls n x) := by
  induction n generalizing x with
  | zero => rfl
  | succ n ih => rw [dbls, ih, dbls]
theorem and_pow (n : Nat) : n &&& 2147483648 = if n.testBit 31 then 2147483648 else 0 := by
  apply Nat.eq_of_testBit_eq
  intro i
  have t : Nat.testBit 2147483648 i = decide (31 = i) := by rw [show (2147483648 : Nat) = 2 ^ 31 from rfl, Nat.testBit_two_pow]
  rw [Nat.testBit_and, t]
  by_cases h : 31 = i
  · subst h
    cases n.testBit 31
    · rfl
    · exact t.symm
  · rw [decide_eq_false h, Bool.and_false]
    cases n.testBit 31
    · exact (Nat.zero_testBit i).symm
    · exact (t.trans (decide_eq_false h)).symm
/-- a sum as the number that a slot holds -/
def vN (x : BitVec 32) : Int := (x.toNat : Int)
theorem vN_lo (x : BitVec 32) : 0 ≤ vN x := by unfold vN; omega
theorem vN_hi (x : BitVec 32) : vN x ≤ 4294967295 := by have := x.isLt; unfold vN; omega
theorem vN_inj {x y : BitVec 32} : vN x = vN y ↔ x = y := by
  unfold vN
  rw [← BitVec.toNat_inj]
  omega
theorem vN_xor (x y : BitVec 32) : bits BinOp.xor IntKind.u32 (vN x) (vN y) = vN (x ^^^ y) := by
  unfold vN
  rw [u32_xor_nat _ _ x.isLt y.isLt, BitVec.toNat_xor]
theorem and_top (x : BitVec 32) : bits BinOp.and IntKind.u32 (vN x) 2147483648 = if x.msb then 2147483648 else 0 := by
  have h := u32_and_nat x.toNat 2147483648 x.isLt (by omega)
  refine Eq.trans h ?_
  rw [and_pow]
  have hm : x.msb = x.toNat.testBit 31 := by rw [BitVec.msb_eq_getLsbD_last]; rfl
  rw [hm]
  cases x.toNat.testBit 31 <;> rfl
theorem dbl_top (x : BitVec 32) (h : x.msb = true) : bits BinOp.xor IntKind.u32 (vN x * 2 % 4294967296) 2168537515 = vN (dbl x) := by
  have e : vN x * 2 % 4294967296 = ((x.toNat * 2 % 4294967296 : Nat) : Int) := by unfold vN; omega
  have h2 := u32_xor_nat (x.toNat * 2 % 4294967296) 2168537515 (by omega) (by omega)
  rw [e]
  refine h2.trans ?_
  unfold dbl vN
  rw [if_pos h, BitVec.toNat_xor, BitVec.toNat_shiftLeft, Nat.shiftLeft_eq]
  rfl
theorem dbl_low (x : BitVec 32) (h : x.msb = false) : vN x * 2 % 4294967296 = vN (dbl x) := by
  unfold dbl vN
  rw [if_neg (by rw [h]; simp), BitVec.toNat_shiftLeft, Nat.shiftLeft_eq]
  simp
theorem ret_u32 {a b : Int} (h : a = b) : Ending.returned (.int .u32 a) = .returned (.int .u32 b) := by rw [h]
theorem and_poly : bits BinOp.and IntKind.u32 2168537515 4294967295 = 2168537515 := by decide +kernel
theorem and_nil : bits BinOp.and IntKind.u32 2168537515 0 = 0 := by decide +kernel
theorem xor_nil (n : Nat) (h : n < 4294967296) : bits BinOp.xor IntKind.u32 (n : Int) 0 = (n : Int) := by
  have h2 := u32_xor_nat n 0 h (by omega)
  refine Eq.trans h2 ?_
  rw [Nat.xor_zero]
theorem top_div (x : BitVec 32) : vN x / 2147483648 = if x.msb then 1 else 0 := by
  have hl := x.isLt
  have hm : x.msb = decide (2147483648 ≤ x.toNat) := by rw [BitVec.msb_eq_decide]
  rw [hm]
  by_cases h : 2147483648 ≤ x.toNat
  · rw [decide_eq_true h, if_pos rfl]; unfold vN; omega
  · rw [decide_eq_false h]; unfold vN; simp; omega
theorem dbl_low' (x : BitVec 32) (h : x.msb = false) : bits BinOp.xor IntKind.u32 (vN x * 2 % 4294967296) 0 = vN (dbl x) := by
  rw [← dbl_low x h]
  have e : vN x * 2 % 4294967296 = ((x.toNat * 2 % 4294967296 : Nat) : Int) := by unfold vN; omega
  rw [e]
  exact xor_nil _ (by omega)
theorem doubled_any (x : BitVec 32) (w : World) :
    Calls Tryz.prog 153 #[.int .u32 (vN x)] w fun e w' => e = .returned (.int .u32 (vN (dbl x))) ∧ w = w' := by
  have h0 := vN_lo x
  have h1 := vN_hi x
  have ha := top_div x
  have hp := and_poly
  have hq := and_nil
  by_cases h : x.msb = true
  · rw [if_pos h] at ha
    have HD := Lib.hid (dbl_top x h)
    clear h
    go_enter Tryz.func153, Tryz.ntmps153
    go_wp2
    go_ret
    exact ⟨ret_u32 HD.out, rfl⟩
  · rw [if_neg h] at ha
    have HD := Lib.hid (dbl_low' x (by simpa using h))
    clear h
    go_enter Tryz.func153, Tryz.ntmps153
    go_wp2
    go_ret
    exact ⟨ret_u32 (by rw [← HD.out, show vN x * 2 % 4294967296 = vN x * 2 by omega]), rfl⟩
theorem xor_byte (x : BitVec 32) (b : UInt8) : bits BinOp.xor IntKind.u32 (vN x) ((b.toNat : Int) * 16777216) = vN (x ^^^ byteAt b) := by
  have hb := b.toNat_lt
  have e : (b.toNat : Int) * 16777216 = vN (byteAt b) := by
    unfold vN byteAt
    rw [BitVec.toNat_shiftLeft, BitVec.toNat_setWidth, Nat.shiftLeft_eq]
    have h2 : b.toBitVec.toNat = b.toNat := rfl
    rw [h2]
    omega
  rw [e, vN_xor]
theorem withByte_any (x : BitVec 32) (b : UInt8) (w : World) :
    Calls Tryz.prog 114 #[.int .u32 (vN x), .int .u8 (b.toNat : Int)] w fun e w' => e = .returned (.int .u32 (vN (step x b))) ∧ w = w' := by
  have h0 := vN_lo x
  have h1 := vN_hi x
  have hb := b.toNat_lt
  obtain ⟨y, hy⟩ : ∃ y, y = x ^^^ byteAt b := ⟨_, rfl⟩
  have hx := xor_byte x b
  rw [← hy] at hx
  have HX := Lib.hid hx
  have HS := Lib.hid (show step x b = dbls 8 y by rw [hy]; rfl)
  clear hx hy
  go_enter Tryz.func114, Tryz.ntmps114
  go_wp2
  rw [HX.out]
  go_loop [0, 10] (fun c v => ∃ i : Nat, i ≤ 8 ∧ v = .int .i64 i ∧ c = .int .u32 (vN (dbls i y))) (fun _ v => 8 - (intOf v).toNat)
  case atStart => exact ⟨0, Nat.zero_le _, rfl, rfl⟩
  case round =>
    obtain ⟨i, hi, rfl, rfl⟩ := hrel
    by_cases hlt : i < 8
    · go_wp2_with (first
        | (go_at_call 153; refine (doubled_any _ _).mono ?_; rintro e w' ⟨rfl, rfl⟩))
      go_round
      case rel => exact ⟨i + 1, by omega, by go_num, by rw [dbls_succ]⟩
      case measure => simp [intOf]; omega
    · obtain rfl : i = 8 := by omega
      go_wp2
      go_ret
      exact ⟨ret_u32 (by rw [HS.out]), rfl⟩
theorem sumLoad (b o : Nat) (x : Int) (w : World) (hc : w.cell? ⟨b, o, none⟩ = some (.int .i64 x)) :
    Calls Tryz.prog 64 #[.pointer (some ⟨b, o, none⟩)] w fun e w' => e = .returned (.int .i64 x) ∧ w = w' := by
  have hl := run_call_load (P := Tryz.prog) Tryz.func113 (by kernel_rfl) (by kernel_rfl) (by kernel_rfl) .i64 (by kernel_rfl) hc
  go_enter Tryz.func64, Tryz.ntmps64
  go_wp2
  go_ret
  exact ⟨rfl, rfl⟩
theorem sumAdd (b o : Nat) (x y : Int) (w : World) (hc : w.cell? ⟨b, o, none⟩ = some (.int .i64 x)) (hz : w.frozen? ⟨b, o, none⟩ = false) (h : -9223372036854775808 ≤ x + y ∧ x + y ≤ 9223372036854775807) :
    Calls Tryz.prog 115 #[.pointer (some ⟨b, o, none⟩), .int .i64 y] w fun e w' => e = .returned (.int .i64 (x + y)) ∧ w.setCell ⟨b, o, none⟩ (.int .i64 (x + y)) = w' := by
  have hl := run_call_add (P := Tryz.prog) Tryz.func154 (by kernel_rfl) (by kernel_rfl) (by kernel_rfl) .i64 (by kernel_rfl) (y := y) (s := x + y) hc hz (by simp [go_sem]; exact IntWalk.i64_in _ h)
  clear h
  go_enter Tryz.func115, Tryz.ntmps115
  go_wp2
  go_ret
  exact ⟨rfl, rfl⟩
theorem take_any' (b o : Nat) (x : BitVec 32) (c : Nat) (s : ByteArray) (w : World) (hs : s.size ≤ 512) (hc : c ≤ 281474976710656)
    (h0 : w.cell? ⟨b, o, none⟩ = some (.int .u32 (vN x))) (f0 : w.frozen? ⟨b, o, none⟩ = false) (h1 : w.cell? ⟨b, o + 1, none⟩ = some (.int .i64 c)) (f1 : w.frozen? ⟨b, o + 1, none⟩ = false) :
    Calls Tryz.prog 65 #[.pointer (some ⟨b, o, none⟩), .string s] w fun e w' => e = .returned (.tuple #[]) ∧ (w.setCell ⟨b, o, none⟩ (.int .u32 (vN (crcFrom x s.data.toList)))).setCell ⟨b, o + 1, none⟩ (.int .i64 (c + s.size : Nat)) = w' := by
  go_enter Tryz.func65, Tryz.ntmps65
  go_wp2
  go_loop [4, 12] (fun t v => ∃ i : Nat, i ≤ s.size ∧ v = .int .i64 i ∧ t = .int .u32 (vN (crcFrom x (s.data.toList.take i)))) (fun _ v => s.size - (intOf v).toNat)
  case atStart => exact ⟨0, Nat.zero_le _, rfl, rfl⟩
  case round =>
    obtain ⟨i, hi, rfl, rfl⟩ := hrel
    by_cases hlt : i < s.size
    · have HT : Hid (crcFrom x (s.data.toList.take (i + 1)) = step (crcFrom x (s.data.toList.take i)) s[i]) := by
        rw [take_snoc s i hlt, crcFrom_append]
        exact rfl
      go_wp2_with (first
        | (go_at_call 114; refine (withByte_any _ _ _).mono ?_; rintro e w' ⟨rfl, rfl⟩))
      go_round
      case rel => exact ⟨i + 1, by omega, by go_num, by rw [HT.out]⟩
      case measure => simp [intOf]; omega
    · obtain rfl : i = s.size := by omega
      have HT : Hid (crcFrom x (s.data.toList.take s.size) = crcFrom x s.data.toList) := by
        rw [List.take_of_length_le (by simp)]
        exact rfl
      have hc1 : ∀ u, (w.setCell ⟨b, o, none⟩ u).cell? ⟨b, o + 1, none⟩ = some (.int .i64 c) := fun u => (World.cell?_setCell_other _ ⟨b, o, none⟩ ⟨b, o + 1, none⟩ _ (by simp)).trans h1
      have hf1 : ∀ u, (w.setCell ⟨b, o, none⟩ u).frozen? ⟨b, o + 1, none⟩ = false := fun u => by simpa using f1
      go_wp2_with (first
        | (go_at_call 115; refine (sumAdd b (o + 1) c s.size _ (hc1 _) (hf1 _) (by omega)).mono ?_; rintro e w' ⟨rfl, rfl⟩))
      rw [HT.out]
      go_end0
      exact ⟨rfl, rfl⟩
theorem take_cut (s : ByteArray) (c e : Nat) (h1 : c ≤ e) (h2 : e ≤ s.size) : s.data.toList.take c ++ (s.extract c e).data.toList = s.data.toList.take e := by
  rw [Lib.extract_data]
  have := List.take_append_drop c (s.data.toList.take e)
  rw [List.take_take, Nat.min_eq_left h1, List.drop_take] at this
  exact this
theorem take_piece (B B0 : Nat) (s : ByteArray) (c e : Nat) (w0 w : World) (hB : B0 ≤ B) (hce : c ≤ e) (hes : e ≤ s.size) (hlen : e ≤ c + 512) (hs : s.size ≤ 281474976710656)
    (h0 : w.cell? ⟨B, 0, none⟩ = some (.int .u32 (vN (crc (s.data.toList.take c))))) (f0 : w.frozen? ⟨B, 0, none⟩ = false) (h1 : w.cell? ⟨B, 1, none⟩ = some (.int .i64 c)) (f1 : w.frozen? ⟨B, 1, none⟩ = false) (hbel : Below B0 w0 w) :
    Calls Tryz.prog 65 #[.pointer (some ⟨B, 0, none⟩), .string (s.extract c e)] w fun en w' => en = .returned (.tuple #[]) ∧
      w'.cell? ⟨B, 0, none⟩ = some (.int .u32 (vN (crc (s.data.toList.take e)))) ∧ w'.frozen? ⟨B, 0, none⟩ = false ∧ w'.cell? ⟨B, 1, none⟩ = some (.int .i64 e) ∧ w'.frozen? ⟨B, 1, none⟩ = false ∧ Below B0 w0 w' := by
  have hz : (s.extract c e).size = e - c := by rw [ByteArray.size_extract]; omega
  refine (take_any' B 0 (crc (s.data.toList.take c)) c (s.extract c e) w (by omega) (by omega) h0 f0 (by simpa using h1) (by simpa using f1)).mono fun en w' ⟨he, hw⟩ => ⟨he, ?_⟩
  subst hw
  have e1 : crcFrom (crc (s.data.toList.take c)) (s.extract c e).data.toList = crc (s.data.toList.take e) := by
    unfold crc
    rw [← crcFrom_append, take_cut s c e hce hes]
  rw [e1, hz, show c + (e - c) = e by omega]
  refine ⟨?_, ?_, ?_, ?_, ?_⟩
  · rw [World.cell?_setCell_other _ ⟨B, 0 + 1, none⟩ ⟨B, 0, none⟩ _ (by simp)]
    exact World.cell?_setCell_same' _ _ _ (by rw [h0]; rfl)
  · simpa using f0
  · have := (World.cell?_setCell_other w ⟨B, 0, none⟩ ⟨B, 1, none⟩ (.int .u32 (vN (crc (s.data.toList.take e)))) (by simp)).trans h1
    exact World.cell?_setCell_same' _ _ _ (by rw [this]; rfl)
  · simpa using f1
  · exact (hbel.setCell hB _).setCell hB _
theorem psum_any (s : ByteArray) (w : World) (hs : s.size ≤ 281474976710656) :
    Calls Tryz.prog 32 #[.string s] w fun e w' => e = .returned (.int .u32 (vN (crc s.data.toList))) ∧ Below w.heap.size w w' := by
  go_enter Tryz.func32, Tryz.ntmps32
  go_wp2
  go_loopw [4] (fun v wr => ∃ c : Nat, c ≤ s.size ∧ v = .int .i64 c ∧ wr.cell? ⟨w.heap.size, 0, none⟩ = some (.int .u32 (vN (crc (s.data.toList.take c)))) ∧ wr.frozen? ⟨w.heap.size, 0, none⟩ = false ∧ wr.cell? ⟨w.heap.size, 1, none⟩ = some (.int .i64 c) ∧ wr.frozen? ⟨w.heap.size, 1, none⟩ = false ∧ Below w.heap.size w wr) (fun v _ => s.size - (intOf v).toNat)
  case atStart => exact ⟨0, Nat.zero_le _, rfl, by simp; rfl, by simp, by simp, by simp, (Below.refl _ _).alloc (Nat.le_refl _) _⟩
  case round =>
    obtain ⟨c, hc, rfl, h0, f0, h1, f1, hbel⟩ := hrel
    by_cases hlt : c < s.size
    · by_cases hm : c + 512 ≤ s.size
      · go_wp2_with fail
        (go_at_call 65; refine (take_piece w.heap.size w.heap.size s c (c + 512) w wr (Nat.le_refl _) (by omega) hm (by omega) hs h0 f0 h1 f1 hbel).mono ?_; rintro e w' ⟨rfl, g0, k0, g1, k1, hbel'⟩)
        clear h0 f0 h1 f1 hbel
        go_wp2_with (first | (go_at_call 64; refine (sumLoad _ _ _ _ g1).mono ?_; rintro e w'' ⟨rfl, rfl⟩))
        go_roundw
        case rel => exact ⟨(c + 512), by omega, by go_num, g0, k0, g1, k1, hbel'⟩
        case measure => simp [intOf]; omega
      · have hm' : (s.size : Int) < (c : Int) + 512 := by omega
        clear hm
        go_wp2_with fail
        (go_at_call 65; refine (take_piece w.heap.size w.heap.size s c s.size w wr (Nat.le_refl _) (by omega) (Nat.le_refl _) (by omega) hs h0 f0 h1 f1 hbel).mono ?_; rintro e w' ⟨rfl, g0, k0, g1, k1, hbel'⟩)
        clear h0 f0 h1 f1 hbel
        go_wp2_with (first | (go_at_call 64; refine (sumLoad _ _ _ _ g1).mono ?_; rintro e w'' ⟨rfl, rfl⟩))
        go_roundw
        case rel => exact ⟨s.size, by omega, by go_num, g0, k0, g1, k1, hbel'⟩
        case measure => simp [intOf]; omega
    · obtain rfl : c = s.size := by omega
      have HT : Hid (s.data.toList.take s.size = s.data.toList) := by
        rw [List.take_of_length_le (by simp)]
        exact rfl
      go_wp2
      go_ret
      exact ⟨ret_u32 (by rw [HT.out]), hbel⟩
end Go.Proofs.YtjkmfonngbendaaGreatDoor.Pk
