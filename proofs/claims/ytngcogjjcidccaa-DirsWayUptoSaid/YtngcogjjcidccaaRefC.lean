/- Contracts of the document's own answers for numbers and texts (cambiumref01), each for every argument: they are those of package pack. -/
import Derived.Test.YtngcogjjcidccaaPackB
namespace Go.Proofs.Ytngcogjjcidccaa.Pk
set_option linter.unusedVariables false
open Go.ChangeShapes Go.WideShapes Go.ChangeAt Go.RowKit
theorem conv_one (W : World) (b : UInt8) : (convert 127 9 (.slice (some ⟨W.heap.size, 0, none⟩) 1 1)).run Try.prog (W.alloc (.cells #[.int .u8 (b.toNat : Int)] 5)) = .ok (.string (bs [b])) (W.alloc (.cells #[.int .u8 (b.toNat : Int)] 5)) :=
  run_convert_bytes_back (P := Try.prog) (W.alloc (.cells #[.int .u8 (b.toNat : Int)] 5)) 127 9 5 ⟨W.heap.size, 0, none⟩ 1 [b] Try.underlying127 Try.underlying5 Try.underlying9 (by
    intro j hj
    match j, hj with
    | 0, hj => simp [Addr.add])
theorem bs_append (a b : List UInt8) : bs a ++ bs b = bs (a ++ b) := by
  apply ByteArray.ext
  simp [bs]
theorem bs_size (l : List UInt8) : (bs l).size = l.length := by show l.toArray.size = _; rw [List.size_toArray]
theorem be_cons (i n : Nat) : UInt8.ofNat (n / 256 ^ i) :: be i n = be (i + 1) n := by
  induction i generalizing n with
  | zero => simp [be]
  | succ i ih =>
    rw [be, ← List.cons_append, be, ← ih (n / 256), Nat.div_div_eq_div_mul, Nat.pow_succ, Nat.mul_comm]
theorem div_step (n i : Nat) (h0 : n < 18446744073709551616) : IntKind.u64.wrap (((n : Int) / 256 ^ i).tdiv 256) = (n : Int) / 256 ^ i / 256 := by
  have e : (n : Int) / 256 ^ i = ((n / 256 ^ i : Nat) : Int) := by simp
  have hl : n / 256 ^ i ≤ n := Nat.div_le_self _ _
  rw [e]
  clear e
  generalize n / 256 ^ i = q at *
  rw [Int.tdiv_eq_ediv_of_nonneg (by omega), IntKind.wrap_u64]
  omega
theorem below_q (w w1 : World) (q : Nat) (h : Below w.heap.size w w1) : Below w.heap.size w (w1.drewN q) := ⟨h.os, h.tape, h.output, h.size, h.block⟩
end Go.Proofs.Ytngcogjjcidccaa.Pk
