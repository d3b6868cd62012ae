/- A hash by its bytes: what package hash's Sum answers. -/
import Derived.Test.YtjkapmghifglcaaDoorRows
import Derived.Test.YtjkapmghifglcaaDoorMath
import Derived.Test.YtjkapmghifglcaaDoorShaF
import Derived.ChangeKeysEq
import Derived.WalkKit
import Derived.ProofKit
import Derived.Handy
import Derived.BigQuiet
import Derived.Deep.QuietTactic
import Derived.RegionTactic
import Derived.Outline
import Derived.WalkLawsBesides
import Derived.WalkSpells
import Derived.Lib.Hide
import Derived.Laws.IdiomStrings
import Derived.Laws.BitsAllLaws
import Derived.Lib.Strings
import Derived.Laws.LoneSync
import Derived.Laws.Pointers
namespace Go.Proofs.YtjkapmghifglcaaDoor.Hk
set_option linter.unusedVariables false
open Go.ChangeShapes Go.WideShapes Go.ChangeAt Go.RowKit
variable {tK tS : TypeId}
open Pk (be be_length u8s u8s_length u8s_set u8s_get)
def hashOf (l : List UInt8) : List UInt8 := hashB (pieces kc first (l ++ padL l.length) ((l.length + (padL l.length).length) / 64))
set_option maxRecDepth 100000 in
theorem abc_facts : (hashOf [97, 98, 99])[0]? = some 0xba ∧ (hashOf [97, 98, 99])[1]? = some 0x78 ∧ (hashOf [97, 98, 99])[31]? = some 0xad := by decide +kernel
set_option maxRecDepth 100000 in
theorem none_facts : (hashOf [])[0]? = some 0xe3 := by decide +kernel
theorem hash_length (l : List UInt8) : (hashOf l).length = 32 := by unfold hashOf hashB; simp
theorem sum_lit (x : ByteArray) (hx : x.size ≤ 140737488351232) (w : World) (hR : Row w 1 tK kc) (hR0 : Row w 0 tS first.list) :
    Calls Tryd.prog 47 #[.string x] w fun e w' => ∃ C, C = (u8s (hashOf x.data.toList)).toArray ∧ e = .returned (.agg C) ∧ Below w.heap.size w w' :=
  (sum_any kc kc_length first x hx w hR.lt hR0.lt hR hR0).mono fun _ _ h => ⟨_, by unfold hashOf; simp, h.1, h.2⟩
theorem hash_row {C : Array Value} {l : List UInt8} (h : C = (u8s (hashOf l)).toArray) : (Tryd.prog.info? 69).map (·.size) = some C.size ∧ (u8s (List.replicate 32 0)).toArray.size = C.size ∧ C.all (·.oneCell') = true := by
  rw [h]
  exact ⟨infoH (hash_length l), by rw [List.size_toArray, List.size_toArray, u8s_length, u8s_length, hash_length, List.length_replicate], u8s_one _⟩
theorem hash_get {C : Array Value} {l : List UInt8} {j : Nat} {b : UInt8} (h : C = (u8s (hashOf l)).toArray) (hb : (hashOf l)[j]? = some b) : C[j]? = some (.int .u8 (b.toNat : Int)) := by
  rw [h]; simp [u8s, hb]
theorem plain8 : Tryd.prog.plainKey 5 = true := by kernel_rfl
theorem info8u : ∃ i, Tryd.prog.info? 5 = some i := Option.isSome_iff_exists.mp (by kernel_rfl)
theorem cells8 : Tryd.prog.cellsOf 5 = 1 := by kernel_rfl
theorem eqItems_same (d : Nat) (C : Array Value) (hC : ∀ j, j < C.size → ∃ k : Int, C[j]? = some (.int .u8 k)) (w : World) : ∀ is : List Nat, (∀ i ∈ is, i < C.size) → (Op.eqItems (d + 1) 5 1 C C is).run Tryd.prog w = .ok true w
  | [], _ => by simp [Op.eqItems]
  | i :: is, h => by
    obtain ⟨k, hk⟩ := hC i (h i (by simp))
    have hp := run_part_plain (P := Tryd.prog) w plain8 (show C[i * 1]? = some (.int .u8 k) by rw [Nat.mul_one]; exact hk)
    have he := run_equalIn_int (P := Tryd.prog) w d 5 .u8 .u8 k k Tryd.underlying5
    have ih := eqItems_same d C hC w is (fun j hj => h j (by simp [hj]))
    simp only [Op.eqItems, Sem.run_bind, hp, he, Result.andThen_ok, beq_self_eq_true, Bool.not_true, Bool.false_eq_true, if_false, ih]
theorem equal_hash {C : Array Value} {l : List UInt8} (h : C = (u8s (hashOf l)).toArray) (w : World) : (Op.equalIn 10000 69 (.agg C) (.agg C)).run Tryd.prog w = .ok true w := by
  obtain ⟨i, hi⟩ := info8u
  have hz : C.size = 32 := by rw [h, List.size_toArray, u8s_length, hash_length]
  rw [run_equalIn_array (P := Tryd.prog) w 9999 C C Tryd.underlying69 hi, cells8]
  refine eqItems_same 9998 C ?_ w _ (fun j hj => by rw [hz]; simpa using hj)
  intro j hj
  have hl : j < (hashOf l).length := by rw [hash_length]; omega
  exact ⟨_, hash_get h (List.getElem?_eq_getElem hl)⟩
theorem guard32 : Tryd.prog.eqGuardType Tryd.prog.depth 69 = false := by kernel_rfl
theorem run_index_hash {C : Array Value} (h0 : C[0]? = some (.int .u8 227)) (hz : C.size = 32) (w : World) : (Instr.index 69 (.agg C) (.int .i64 0)).run Tryd.prog w = .ok (.int .u8 227) w := by
  simp [Instr.index, run_underlying Tryd.underlying69, asIntOf, go_sem, hz]
  exact Option.some.inj ((Array.getElem?_eq_getElem (by omega)).symm.trans h0)
theorem abc_data : (⟨#[97, 98, 99]⟩ : ByteArray).data.toList = [97, 98, 99] := rfl
theorem none_data : (⟨#[]⟩ : ByteArray).data.toList = [] := rfl
end Go.Proofs.YtjkapmghifglcaaDoor.Hk
/- Plain mathematics on the check sum: the sum of bytes, as a function on lists, is linear, and one turned bit always shows. No word of the program here. -/
namespace Go.Proofs.YtjkapmghifglcaaDoor.Pk
def dbl (x : BitVec 32) : BitVec 32 := if x.msb then (x <<< 1) ^^^ 2168537515#32 else x <<< 1
def byteAt (b : UInt8) : BitVec 32 := BitVec.setWidth 32 b.toBitVec <<< 24
def dbls : Nat → BitVec 32 → BitVec 32
  | 0, x => x
  | n + 1, x => dbls n (dbl x)
def step (x : BitVec 32) (b : UInt8) : BitVec 32 := dbls 8 (x ^^^ byteAt b)
def crcFrom (x : BitVec 32) (l : List UInt8) : BitVec 32 := l.foldl step x
def crc (l : List UInt8) : BitVec 32 := crcFrom 0#32 l
theorem dbl_xor (x y : BitVec 32) : dbl (x ^^^ y) = dbl x ^^^ dbl y := by
  unfold dbl
  rw [BitVec.msb_xor, BitVec.shiftLeft_xor_distrib]
  cases x.msb <;> cases y.msb <;> simp
  · ac_rfl
  · ac_rfl
  · rw [BitVec.xor_assoc, BitVec.xor_comm (y <<< 1), ← BitVec.xor_assoc 2168537515#32, BitVec.xor_self, BitVec.zero_xor]
theorem dbl_zero_iff (x : BitVec 32) : dbl x = 0#32 → x = 0#32 := by
  intro h
  unfold dbl at h
  by_cases hm : x.msb = true
  · rw [if_pos hm] at h
    have h0 := congrArg (fun v : BitVec 32 => v.getLsbD 0) h
    simp at h0
  · rw [if_neg hm] at h
    apply BitVec.eq_of_getLsbD_eq
    intro i hi
    rw [BitVec.getLsbD_zero]
    by_cases h31 : i = 31
    · subst h31
      rw [BitVec.msb_eq_getLsbD_last] at hm
      simpa using hm
    · have h0 := congrArg (fun v : BitVec 32 => v.getLsbD (i + 1)) h
      simp only [BitVec.getLsbD_shiftLeft, BitVec.getLsbD_zero] at h0
      have e1 : decide (i + 1 < 32) = true := by simp; omega
      have e2 : decide (i + 1 < 1) = false := by simp
      rw [e1, e2] at h0
      simpa using h0
theorem dbls_xor (n : Nat) (x y : BitVec 32) : dbls n (x ^^^ y) = dbls n x ^^^ dbls n y := by
  induction n generalizing x y with
  | zero => rfl
  | succ n ih => rw [dbls, dbls, dbls, dbl_xor, ih]
theorem dbls_zero_iff (n : Nat) (x : BitVec 32) : dbls n x = 0#32 → x = 0#32 := by
  induction n generalizing x with
  | zero => exact id
  | succ n ih => exact fun h => dbl_zero_iff x (ih _ h)
theorem byteAt_xor (a b : UInt8) : byteAt (a ^^^ b) = byteAt a ^^^ byteAt b := by
  unfold byteAt
  rw [UInt8.toBitVec_xor, BitVec.setWidth_xor, BitVec.shiftLeft_xor_distrib]
theorem xor4 (a b c d : BitVec 32) : a ^^^ b ^^^ (c ^^^ d) = a ^^^ c ^^^ (b ^^^ d) := by ac_rfl
theorem step_xor (x y : BitVec 32) (a b : UInt8) : step (x ^^^ y) (a ^^^ b) = step x a ^^^ step y b := by
  unfold step
  rw [byteAt_xor, xor4, dbls_xor]
theorem crcFrom_xor : ∀ (l m : List UInt8) (x y : BitVec 32), l.length = m.length → crcFrom (x ^^^ y) (List.zipWith (· ^^^ ·) l m) = crcFrom x l ^^^ crcFrom y m
  | [], [], x, y, _ => rfl
  | a :: l, b :: m, x, y, h => by
    have := crcFrom_xor l m (step x a) (step y b) (by simpa using h)
    rw [← step_xor] at this
    exact this
theorem crc_xor (l m : List UInt8) (h : l.length = m.length) : crc (List.zipWith (· ^^^ ·) l m) = crc l ^^^ crc m := crcFrom_xor l m 0#32 0#32 h
theorem dbls_zero (n : Nat) : dbls n 0#32 = 0#32 := by
  induction n with
  | zero => rfl
  | succ n ih => exact ih
theorem step_zero (x : BitVec 32) : step x 0 = dbls 8 x := by unfold step byteAt; simp
theorem crcFrom_zeros (n : Nat) : crcFrom 0#32 (List.replicate n 0) = 0#32 := by
  induction n with
  | zero => rfl
  | succ n ih =>
    have e : crcFrom 0#32 (List.replicate (n + 1) 0) = crcFrom (step 0#32 0) (List.replicate n 0) := rfl
    rw [e, step_zero, dbls_zero, ih]
theorem crcFrom_append (x : BitVec 32) (l m : List UInt8) : crcFrom x (l ++ m) = crcFrom (crcFrom x l) m := by unfold crcFrom; rw [List.foldl_append]
theorem crc_snoc (l : List UInt8) (b : UInt8) : crc (l ++ [b]) = step (crc l) b := by unfold crc; rw [crcFrom_append]; rfl
theorem crc_leading (n : Nat) (l : List UInt8) : crc (List.replicate n 0 ++ l) = crc l := by unfold crc; rw [crcFrom_append, crcFrom_zeros]
theorem crc_zeros (n : Nat) : crc (List.replicate n 0) = 0#32 := crcFrom_zeros n
theorem crcFrom_zero_iff (n : Nat) (x : BitVec 32) : crcFrom x (List.replicate n 0) = 0#32 → x = 0#32 := by
  induction n generalizing x with
  | zero => exact id
  | succ n ih =>
    intro h
    rw [List.replicate_succ] at h
    have h1 : step x 0 = 0#32 := ih _ h
    rw [step_zero] at h1
    exact dbls_zero_iff 8 x h1
theorem byteAt_zero_iff (b : UInt8) (h : byteAt b = 0#32) : b = 0 := by
  unfold byteAt at h
  have h1 := congrArg BitVec.toNat h
  rw [BitVec.toNat_shiftLeft, BitVec.toNat_setWidth, Nat.shiftLeft_eq] at h1
  have hb := b.toNat_lt
  have h2 : b.toBitVec.toNat = b.toNat := rfl
  rw [h2] at h1
  simp at h1
  rw [← UInt8.toNat_inj]
  simp
  omega
theorem crc_single (p q : Nat) (b : UInt8) (hb : b ≠ 0) : crc (List.replicate p 0 ++ b :: List.replicate q 0) ≠ 0#32 := by
  intro h
  rw [crc_leading] at h
  have h1 : crcFrom (step 0#32 b) (List.replicate q 0) = 0#32 := h
  have h2 := crcFrom_zero_iff q _ h1
  have h3 := dbls_zero_iff 8 _ h2
  rw [BitVec.zero_xor] at h3
  exact hb (byteAt_zero_iff b h3)
theorem zip_set (l : List UInt8) (i : Nat) (h : i < l.length) (b : UInt8) : l.set i (l[i] ^^^ b) = List.zipWith (· ^^^ ·) l (List.replicate i 0 ++ b :: List.replicate (l.length - i - 1) 0) := by
  apply List.ext_getElem
  · simp; omega
  · intro j h1 h2
    rw [List.getElem_zipWith, List.getElem_set]
    by_cases hj : i = j
    · subst hj
      rw [if_pos rfl, List.getElem_append_right (by simp)]
      simp
    · rw [if_neg hj]
      by_cases hlt : j < i
      · rw [List.getElem_append_left (by simpa using hlt)]
        simp
      · rw [List.getElem_append_right (by simp; omega)]
        rw [List.getElem_cons, dif_neg (by simp; omega), List.getElem_replicate]
        simp
theorem crc_turned (l : List UInt8) (i : Nat) (h : i < l.length) (b : UInt8) (hb : b ≠ 0) : crc (l.set i (l[i] ^^^ b)) ≠ crc l := by
  rw [zip_set l i h b, crc_xor _ _ (by simp; omega)]
  intro e
  have h1 : crc l ^^^ (crc l ^^^ crc (List.replicate i 0 ++ b :: List.replicate (l.length - i - 1) 0)) = crc l ^^^ crc l := by rw [e]
  rw [← BitVec.xor_assoc, BitVec.xor_self, BitVec.zero_xor] at h1
  exact crc_single _ _ b hb h1
end Go.Proofs.YtjkapmghifglcaaDoor.Pk
/- What the check sum's texts need of the texts of numbers: for a seat that holds the check sum alone. -/
namespace Go.Proofs.YtjkapmghifglcaaDoor.Pk
set_option linter.unusedVariables false
open Go.ChangeShapes Go.WideShapes Go.ChangeAt Go.RowKit
theorem info5 : (Tryd.prog.info? 5).map (fun i => (i.zero, i.size, i.bytes)) = some (some (.int .u8 0), 1, 1) := by kernel_rfl
theorem take_snoc (s : ByteArray) (k : Nat) (h : k < s.size) : s.data.toList.take (k + 1) = s.data.toList.take k ++ [s[k]] := by
  rw [List.take_succ_eq_append_getElem (by simpa using h)]; rfl
def bs (l : List UInt8) : ByteArray := ⟨l.toArray⟩
theorem bs_append (a b : List UInt8) : bs a ++ bs b = bs (a ++ b) := by
  apply ByteArray.ext
  simp [bs]
theorem bs_size (l : List UInt8) : (bs l).size = l.length := by show l.toArray.size = _; rw [List.size_toArray]
theorem bs_list (l : List UInt8) : (bs l).toList = l := by rw [ByteArray.toList_eq]; rfl
theorem bs_data (l : List UInt8) : (bs l).data.toList = l := rfl
theorem below_q (w w1 : World) (q : Nat) (h : Below w.heap.size w w1) : Below w.heap.size w (w1.drewN q) := ⟨h.os, h.tape, h.output, h.size, h.block⟩
theorem below_step {w w1 w2 : World} (h1 : Below w.heap.size w w1) (h2 : Below w1.heap.size w1 w2) : Below w.heap.size w w2 := h1.trans (h2.mono h1.size)
end Go.Proofs.YtjkapmghifglcaaDoor.Pk
/- Contracts of package pack's check sum: Sum of any text is the sum as a function on its bytes; what it counts beside is its own. -/
namespace Go.Proofs.YtjkapmghifglcaaDoor.Pk
set_option linter.unusedVariables false
open Go.ChangeShapes Go.WideShapes Go.ChangeAt Go.RowKit
theorem dbls_succ (n : Nat) (x : BitVec 32) : dbls (n + 1) x = dbl (dbls n x) := by
  induction n generalizing x with
  | zero => rfl
  | succ n ih => rw [dbls, ih, dbls]
theorem and_pow (n : Nat) : n &&& 2147483648 = if n.testBit 31 then 2147483648 else 0 := by
  apply Nat.eq_of_testBit_eq
  intro i
  have t : Nat.testBit 2147483648 i = decide (31 = i) := by rw [show (2147483648 : Nat) = 2 ^ 31 from rfl, Nat.testBit_two_pow]
  rw [Nat.testBit_and, t]
  by_cases h : 31 = i
  · subst h
    cases n.testBit 31
    · rfl
    · exact t.symm
  · rw [decide_eq_false h, Bool.and_false]
    cases n.testBit 31
    · exact (Nat.zero_testBit i).symm
    · exact (t.trans (decide_eq_false h)).symm
/-- a sum as the number that a slot holds -/
def vN (x : BitVec 32) : Int := (x.toNat : Int)
theorem vN_lo (x : BitVec 32) : 0 ≤ vN x := by unfold vN; omega
theorem vN_hi (x : BitVec 32) : vN x ≤ 4294967295 := by have := x.isLt; unfold vN; omega
theorem vN_inj {x y : BitVec 32} : vN x = vN y ↔ x = y := by
  unfold vN
  rw [← BitVec.toNat_inj]
  omega
theorem vN_xor (x y : BitVec 32) : bits BinOp.xor IntKind.u32 (vN x) (vN y) = vN (x ^^^ y) := by
  unfold vN
  rw [u32_xor_nat _ _ x.isLt y.isLt, BitVec.toNat_xor]
theorem and_top (x : BitVec 32) : bits BinOp.and IntKind.u32 (vN x) 2147483648 = if x.msb then 2147483648 else 0 := by
  have h := u32_and_nat x.toNat 2147483648 x.isLt (by omega)
  refine Eq.trans h ?_
  rw [and_pow]
  have hm : x.msb = x.toNat.testBit 31 := by rw [BitVec.msb_eq_getLsbD_last]; rfl
  rw [hm]
  cases x.toNat.testBit 31 <;> rfl
theorem dbl_top (x : BitVec 32) (h : x.msb = true) : bits BinOp.xor IntKind.u32 (vN x * 2 % 4294967296) 2168537515 = vN (dbl x) := by
  have e : vN x * 2 % 4294967296 = ((x.toNat * 2 % 4294967296 : Nat) : Int) := by unfold vN; omega
  have h2 := u32_xor_nat (x.toNat * 2 % 4294967296) 2168537515 (by omega) (by omega)
  rw [e]
  refine h2.trans ?_
  unfold dbl vN
  rw [if_pos h, BitVec.toNat_xor, BitVec.toNat_shiftLeft, Nat.shiftLeft_eq]
  rfl
theorem dbl_low (x : BitVec 32) (h : x.msb = false) : vN x * 2 % 4294967296 = vN (dbl x) := by
  unfold dbl vN
  rw [if_neg (by rw [h]; simp), BitVec.toNat_shiftLeft, Nat.shiftLeft_eq]
  simp
theorem ret_u32 {a b : Int} (h : a = b) : Ending.returned (.int .u32 a) = .returned (.int .u32 b) := by rw [h]
theorem and_poly : bits BinOp.and IntKind.u32 2168537515 4294967295 = 2168537515 := by decide +kernel
theorem and_nil : bits BinOp.and IntKind.u32 2168537515 0 = 0 := by decide +kernel
theorem xor_nil (n : Nat) (h : n < 4294967296) : bits BinOp.xor IntKind.u32 (n : Int) 0 = (n : Int) := by
  have h2 := u32_xor_nat n 0 h (by omega)
  refine Eq.trans h2 ?_
  rw [Nat.xor_zero]
theorem top_div (x : BitVec 32) : vN x / 2147483648 = if x.msb then 1 else 0 := by
  have hl := x.isLt
  have hm : x.msb = decide (2147483648 ≤ x.toNat) := by rw [BitVec.msb_eq_decide]
  rw [hm]
  by_cases h : 2147483648 ≤ x.toNat
  · rw [decide_eq_true h, if_pos rfl]; unfold vN; omega
  · rw [decide_eq_false h]; unfold vN; simp; omega
theorem dbl_low' (x : BitVec 32) (h : x.msb = false) : bits BinOp.xor IntKind.u32 (vN x * 2 % 4294967296) 0 = vN (dbl x) := by
  rw [← dbl_low x h]
  have e : vN x * 2 % 4294967296 = ((x.toNat * 2 % 4294967296 : Nat) : Int) := by unfold vN; omega
  rw [e]
  exact xor_nil _ (by omega)
theorem doubled_any (x : BitVec 32) (w : World) :
    Calls Tryd.prog 90 #[.int .u32 (vN x)] w fun e w' => e = .returned (.int .u32 (vN (dbl x))) ∧ w = w' := by
  have h0 := vN_lo x
  have h1 := vN_hi x
  have ha := top_div x
  have hp := and_poly
  have hq := and_nil
  by_cases h : x.msb = true
  · rw [if_pos h] at ha
    have HD := Lib.hid (dbl_top x h)
    clear h
    go_enter Tryd.func90, Tryd.ntmps90
    go_wp2
    go_ret
    exact ⟨ret_u32 HD.out, rfl⟩
  · rw [if_neg h] at ha
    have HD := Lib.hid (dbl_low' x (by simpa using h))
    clear h
    go_enter Tryd.func90, Tryd.ntmps90
    go_wp2
    go_ret
    exact ⟨ret_u32 (by rw [← HD.out, show vN x * 2 % 4294967296 = vN x * 2 by omega]), rfl⟩
theorem xor_byte (x : BitVec 32) (b : UInt8) : bits BinOp.xor IntKind.u32 (vN x) ((b.toNat : Int) * 16777216) = vN (x ^^^ byteAt b) := by
  have hb := b.toNat_lt
  have e : (b.toNat : Int) * 16777216 = vN (byteAt b) := by
    unfold vN byteAt
    rw [BitVec.toNat_shiftLeft, BitVec.toNat_setWidth, Nat.shiftLeft_eq]
    have h2 : b.toBitVec.toNat = b.toNat := rfl
    rw [h2]
    omega
  rw [e, vN_xor]
theorem withByte_any (x : BitVec 32) (b : UInt8) (w : World) :
    Calls Tryd.prog 79 #[.int .u32 (vN x), .int .u8 (b.toNat : Int)] w fun e w' => e = .returned (.int .u32 (vN (step x b))) ∧ w = w' := by
  have h0 := vN_lo x
  have h1 := vN_hi x
  have hb := b.toNat_lt
  obtain ⟨y, hy⟩ : ∃ y, y = x ^^^ byteAt b := ⟨_, rfl⟩
  have hx := xor_byte x b
  rw [← hy] at hx
  have HX := Lib.hid hx
  have HS := Lib.hid (show step x b = dbls 8 y by rw [hy]; rfl)
  clear hx hy
  go_enter Tryd.func79, Tryd.ntmps79
  go_wp2
  rw [HX.out]
  go_loop [0, 10] (fun c v => ∃ i : Nat, i ≤ 8 ∧ v = .int .i64 i ∧ c = .int .u32 (vN (dbls i y))) (fun _ v => 8 - (intOf v).toNat)
  case atStart => exact ⟨0, Nat.zero_le _, rfl, rfl⟩
  case round =>
    obtain ⟨i, hi, rfl, rfl⟩ := hrel
    by_cases hlt : i < 8
    · go_wp2_with (first
        | (go_at_call 90; refine (doubled_any _ _).mono ?_; rintro e w' ⟨rfl, rfl⟩))
      go_round
      case rel => exact ⟨i + 1, by omega, by go_num, by rw [dbls_succ]⟩
      case measure => simp [intOf]; omega
    · obtain rfl : i = 8 := by omega
      go_wp2
      go_ret
      exact ⟨ret_u32 (by rw [HS.out]), rfl⟩
theorem sumLoad (b o : Nat) (x : Int) (w : World) (hc : w.cell? ⟨b, o, none⟩ = some (.int .i64 x)) :
    Calls Tryd.prog 58 #[.pointer (some ⟨b, o, none⟩)] w fun e w' => e = .returned (.int .i64 x) ∧ w = w' := by
  have hl := run_call_load (P := Tryd.prog) Tryd.func78 (by kernel_rfl) (by kernel_rfl) (by kernel_rfl) .i64 (by kernel_rfl) hc
  go_enter Tryd.func58, Tryd.ntmps58
  go_wp2
  go_ret
  exact ⟨rfl, rfl⟩
theorem sumAdd (b o : Nat) (x y : Int) (w : World) (hc : w.cell? ⟨b, o, none⟩ = some (.int .i64 x)) (hz : w.frozen? ⟨b, o, none⟩ = false) (h : -9223372036854775808 ≤ x + y ∧ x + y ≤ 9223372036854775807) :
    Calls Tryd.prog 80 #[.pointer (some ⟨b, o, none⟩), .int .i64 y] w fun e w' => e = .returned (.int .i64 (x + y)) ∧ w.setCell ⟨b, o, none⟩ (.int .i64 (x + y)) = w' := by
  have hl := run_call_add (P := Tryd.prog) Tryd.func91 (by kernel_rfl) (by kernel_rfl) (by kernel_rfl) .i64 (by kernel_rfl) (y := y) (s := x + y) hc hz (by simp [go_sem]; exact IntWalk.i64_in _ h)
  clear h
  go_enter Tryd.func80, Tryd.ntmps80
  go_wp2
  go_ret
  exact ⟨rfl, rfl⟩
theorem take_any' (b o : Nat) (x : BitVec 32) (c : Nat) (s : ByteArray) (w : World) (hs : s.size ≤ 512) (hc : c ≤ 281474976710656)
    (h0 : w.cell? ⟨b, o, none⟩ = some (.int .u32 (vN x))) (f0 : w.frozen? ⟨b, o, none⟩ = false) (h1 : w.cell? ⟨b, o + 1, none⟩ = some (.int .i64 c)) (f1 : w.frozen? ⟨b, o + 1, none⟩ = false) :
    Calls Tryd.prog 59 #[.pointer (some ⟨b, o, none⟩), .string s] w fun e w' => e = .returned (.tuple #[]) ∧ (w.setCell ⟨b, o, none⟩ (.int .u32 (vN (crcFrom x s.data.toList)))).setCell ⟨b, o + 1, none⟩ (.int .i64 (c + s.size : Nat)) = w' := by
  go_enter Tryd.func59, Tryd.ntmps59
  go_wp2
  go_loop [4, 12] (fun t v => ∃ i : Nat, i ≤ s.size ∧ v = .int .i64 i ∧ t = .int .u32 (vN (crcFrom x (s.data.toList.take i)))) (fun _ v => s.size - (intOf v).toNat)
  case atStart => exact ⟨0, Nat.zero_le _, rfl, rfl⟩
  case round =>
    obtain ⟨i, hi, rfl, rfl⟩ := hrel
    by_cases hlt : i < s.size
    · have HT : Hid (crcFrom x (s.data.toList.take (i + 1)) = step (crcFrom x (s.data.toList.take i)) s[i]) := by
        rw [take_snoc s i hlt, crcFrom_append]
        exact rfl
      go_wp2_with (first
        | (go_at_call 79; refine (withByte_any _ _ _).mono ?_; rintro e w' ⟨rfl, rfl⟩))
      go_round
      case rel => exact ⟨i + 1, by omega, by go_num, by rw [HT.out]⟩
      case measure => simp [intOf]; omega
    · obtain rfl : i = s.size := by omega
      have HT : Hid (crcFrom x (s.data.toList.take s.size) = crcFrom x s.data.toList) := by
        rw [List.take_of_length_le (by simp)]
        exact rfl
      have hc1 : ∀ u, (w.setCell ⟨b, o, none⟩ u).cell? ⟨b, o + 1, none⟩ = some (.int .i64 c) := fun u => (World.cell?_setCell_other _ ⟨b, o, none⟩ ⟨b, o + 1, none⟩ _ (by simp)).trans h1
      have hf1 : ∀ u, (w.setCell ⟨b, o, none⟩ u).frozen? ⟨b, o + 1, none⟩ = false := fun u => by simpa using f1
      go_wp2_with (first
        | (go_at_call 80; refine (sumAdd b (o + 1) c s.size _ (hc1 _) (hf1 _) (by omega)).mono ?_; rintro e w' ⟨rfl, rfl⟩))
      rw [HT.out]
      go_end0
      exact ⟨rfl, rfl⟩
theorem take_cut (s : ByteArray) (c e : Nat) (h1 : c ≤ e) (h2 : e ≤ s.size) : s.data.toList.take c ++ (s.extract c e).data.toList = s.data.toList.take e := by
  rw [Lib.extract_data]
  have := List.take_append_drop c (s.data.toList.take e)
  rw [List.take_take, Nat.min_eq_left h1, List.drop_take] at this
  exact this
theorem take_piece (B B0 : Nat) (s : ByteArray) (c e : Nat) (w0 w : World) (hB : B0 ≤ B) (hce : c ≤ e) (hes : e ≤ s.size) (hlen : e ≤ c + 512) (hs : s.size ≤ 281474976710656)
    (h0 : w.cell? ⟨B, 0, none⟩ = some (.int .u32 (vN (crc (s.data.toList.take c))))) (f0 : w.frozen? ⟨B, 0, none⟩ = false) (h1 : w.cell? ⟨B, 1, none⟩ = some (.int .i64 c)) (f1 : w.frozen? ⟨B, 1, none⟩ = false) (hbel : Below B0 w0 w) :
    Calls Tryd.prog 59 #[.pointer (some ⟨B, 0, none⟩), .string (s.extract c e)] w fun en w' => en = .returned (.tuple #[]) ∧
      w'.cell? ⟨B, 0, none⟩ = some (.int .u32 (vN (crc (s.data.toList.take e)))) ∧ w'.frozen? ⟨B, 0, none⟩ = false ∧ w'.cell? ⟨B, 1, none⟩ = some (.int .i64 e) ∧ w'.frozen? ⟨B, 1, none⟩ = false ∧ Below B0 w0 w' := by
  have hz : (s.extract c e).size = e - c := by rw [ByteArray.size_extract]; omega
  refine (take_any' B 0 (crc (s.data.toList.take c)) c (s.extract c e) w (by omega) (by omega) h0 f0 (by simpa using h1) (by simpa using f1)).mono fun en w' ⟨he, hw⟩ => ⟨he, ?_⟩
  subst hw
  have e1 : crcFrom (crc (s.data.toList.take c)) (s.extract c e).data.toList = crc (s.data.toList.take e) := by
    unfold crc
    rw [← crcFrom_append, take_cut s c e hce hes]
  rw [e1, hz, show c + (e - c) = e by omega]
  refine ⟨?_, ?_, ?_, ?_, ?_⟩
  · rw [World.cell?_setCell_other _ ⟨B, 0 + 1, none⟩ ⟨B, 0, none⟩ _ (by simp)]
    exact World.cell?_setCell_same' _ _ _ (by rw [h0]; rfl)
  · simpa using f0
  · have := (World.cell?_setCell_other w ⟨B, 0, none⟩ ⟨B, 1, none⟩ (.int .u32 (vN (crc (s.data.toList.take e)))) (by simp)).trans h1
    exact World.cell?_setCell_same' _ _ _ (by rw [this]; rfl)
  · simpa using f1
  · exact (hbel.setCell hB _).setCell hB _
theorem psum_any (s : ByteArray) (w : World) (hs : s.size ≤ 281474976710656) :
    Calls Tryd.prog 46 #[.string s] w fun e w' => e = .returned (.int .u32 (vN (crc s.data.toList))) ∧ Below w.heap.size w w' := by
  go_enter Tryd.func46, Tryd.ntmps46
  go_wp2
  go_loopw [4] (fun v wr => ∃ c : Nat, c ≤ s.size ∧ v = .int .i64 c ∧ wr.cell? ⟨w.heap.size, 0, none⟩ = some (.int .u32 (vN (crc (s.data.toList.take c)))) ∧ wr.frozen? ⟨w.heap.size, 0, none⟩ = false ∧ wr.cell? ⟨w.heap.size, 1, none⟩ = some (.int .i64 c) ∧ wr.frozen? ⟨w.heap.size, 1, none⟩ = false ∧ Below w.heap.size w wr) (fun v _ => s.size - (intOf v).toNat)
  case atStart => exact ⟨0, Nat.zero_le _, rfl, by simp; rfl, by simp, by simp, by simp, (Below.refl _ _).alloc (Nat.le_refl _) _⟩
  case round =>
    obtain ⟨c, hc, rfl, h0, f0, h1, f1, hbel⟩ := hrel
    by_cases hlt : c < s.size
    · by_cases hm : c + 512 ≤ s.size
      · go_wp2_with fail
        (go_at_call 59; refine (take_piece w.heap.size w.heap.size s c (c + 512) w wr (Nat.le_refl _) (by omega) hm (by omega) hs h0 f0 h1 f1 hbel).mono ?_; rintro e w' ⟨rfl, g0, k0, g1, k1, hbel'⟩)
        clear h0 f0 h1 f1 hbel
        go_wp2_with (first | (go_at_call 58; refine (sumLoad _ _ _ _ g1).mono ?_; rintro e w'' ⟨rfl, rfl⟩))
        go_roundw
        case rel => exact ⟨(c + 512), by omega, by go_num, g0, k0, g1, k1, hbel'⟩
        case measure => simp [intOf]; omega
      · have hm' : (s.size : Int) < (c : Int) + 512 := by omega
        clear hm
        go_wp2_with fail
        (go_at_call 59; refine (take_piece w.heap.size w.heap.size s c s.size w wr (Nat.le_refl _) (by omega) (Nat.le_refl _) (by omega) hs h0 f0 h1 f1 hbel).mono ?_; rintro e w' ⟨rfl, g0, k0, g1, k1, hbel'⟩)
        clear h0 f0 h1 f1 hbel
        go_wp2_with (first | (go_at_call 58; refine (sumLoad _ _ _ _ g1).mono ?_; rintro e w'' ⟨rfl, rfl⟩))
        go_roundw
        case rel => exact ⟨s.size, by omega, by go_num, g0, k0, g1, k1, hbel'⟩
        case measure => simp [intOf]; omega
    · obtain rfl : c = s.size := by omega
      have HT : Hid (s.data.toList.take s.size = s.data.toList) := by
        rw [List.take_of_length_le (by simp)]
        exact rfl
      go_wp2
      go_ret
      exact ⟨ret_u32 (by rw [HT.out]), hbel⟩
end Go.Proofs.YtjkapmghifglcaaDoor.Pk
/- The answers that cambiumtop's begins asks for are given. -/
namespace Go.Proofs.YtjkapmghifglcaaDoor.Be
set_option linter.unusedVariables false
open Go.ChangeShapes Go.WideShapes Go.ChangeAt Go.RowKit
open Pk (crc psum_any u8s u8s_length)
open Hk (Row kc first hash_length sum_lit row_below abc_facts abc_data)
theorem run_index_at {C : Array Value} {l : List UInt8} (hC : C = (u8s l).toArray) (hl : l.length = 32) (i : Nat) (b : UInt8) (hb : l[i]? = some b) (w : World) : (Instr.index 69 (.agg C) (.int .i64 i)).run Tryd.prog w = .ok (.int .u8 b.toNat) w := by
  have hi : i < 32 := by have := (List.getElem?_eq_some_iff.1 hb).1; omega
  have h0 : C[i]? = some (.int .u8 (b.toNat : Int)) := by rw [hC]; simp [u8s, hb]
  have hz : C.size = 32 := by rw [hC, List.size_toArray, u8s_length, hl]
  simp [Instr.index, run_underlying Tryd.underlying69, asIntOf, go_sem, hz, hi]
  exact Option.some.inj ((Array.getElem?_eq_getElem (by omega)).symm.trans h0)
set_option maxRecDepth 100000 in
theorem crc_digits : crc [49, 50, 51, 52, 53, 54, 55, 56, 57] = 806403967#32 := by decide +kernel
variable {tK tS : TypeId}
set_option maxRecDepth 100000 in
set_option maxHeartbeats 1000000 in
theorem begins_any (w : World) (hR : Row w 1 tK kc) (hR0 : Row w 0 tS first.list) :
    Calls Tryd.prog 29 #[] w fun e w' => e = .returned (.bool true) ∧ Below w.heap.size w w' := by
  have RK := Lib.hid hR
  have RF := Lib.hid hR0
  clear hR hR0
  have hc : ∀ w : World, Calls Tryd.prog 46 #[.string ⟨#[49, 50, 51, 52, 53, 54, 55, 56, 57]⟩] w fun e w' => e = .returned (.int .u32 806403967) ∧ Below w.heap.size w w' := by
    intro w
    have := psum_any ⟨#[49, 50, 51, 52, 53, 54, 55, 56, 57]⟩ w (by decide)
    rw [show crc (⟨#[49, 50, 51, 52, 53, 54, 55, 56, 57]⟩ : ByteArray).data.toList = 806403967#32 from crc_digits] at this
    exact this
  have HC := Lib.hid hc
  clear hc
  go_enter Tryd.func29, Tryd.ntmps29
  go_wp2_with fail
  (go_at_call 46; refine (HC.out _).mono ?_; rintro e w1 ⟨rfl, hb1⟩)
  have B1 := Lib.hid hb1
  clear hb1
  go_wp2_with fail
  (go_at_call 47; (with_reducible refine (sum_lit _ (by decide) _ (row_below RK.out B1.out RK.out.lt) (row_below RF.out B1.out RF.out.lt)).mono ?_); rintro e w2 ⟨C, hC, rfl, hb2⟩)
  rw [abc_data] at hC
  have hix := run_index_at hC (hash_length _) 0 186 abc_facts.1
  have HCC := Lib.hid hC
  have B2 := Lib.hid (B1.out.trans (hb2.mono B1.out.size))
  clear hC hb2
  have hix0 : ∀ w, (Instr.index 69 (.agg C) (.int .i64 0)).run Tryd.prog w = .ok (.int .u8 186) w := hix
  clear hix
  go_wp2
  go_ret
  exact ⟨rfl, B2.out⟩
end Go.Proofs.YtjkapmghifglcaaDoor.Be
