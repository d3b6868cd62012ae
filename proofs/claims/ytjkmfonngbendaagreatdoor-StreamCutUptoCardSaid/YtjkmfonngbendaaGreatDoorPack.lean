/- Contracts of package pack's Number and TakeNumber, case by case: which bytes a number has of a width, which number bytes begin with, or which error is told. -/
import Derived.Test.YtjkmfonngbendaaGreatDoorRows
import Derived.Test.YtjkmfonngbendaaGreatDoorMath
import Derived.WalkKit
import Derived.ProofKit
import Derived.Handy
import Derived.BigQuiet
import Derived.Deep.QuietTactic
import Derived.RegionTactic
import Derived.Outline
import Derived.WalkLawsBesides
import Derived.WalkSpells
import Derived.Lib.Hide
import Derived.Laws.IdiomStrings
import Derived.Laws.BitsAllLaws
namespace Go.Proofs.YtjkmfonngbendaaGreatDoor.Pk
set_option linter.unusedVariables false
open Go.ChangeShapes Go.WideShapes Go.ChangeAt Go.RowKit
theorem rightW (n : Int) (h1 : 1 ≤ n) (h2 : n ≤ 8) (w : World) :
    Calls Tryz.prog 40 #[.int .i64 n] w fun e w' => e = .returned (.bool true) ∧ w = w' := by
  go_enter Tryz.func40, Tryz.ntmps40
  go_wp2
  go_ret
  exact ⟨rfl, rfl⟩
theorem rightW_no (n : Int) (h : ¬ (1 ≤ n ∧ n ≤ 8)) (w : World) :
    Calls Tryz.prog 40 #[.int .i64 n] w fun e w' => e = .returned (.bool false) ∧ w = w' := by
  by_cases h1 : 1 ≤ n
  · have h2 : decide (n ≤ 8) = false := by simp; omega
    clear h
    go_enter Tryz.func40, Tryz.ntmps40
    go_wp2
    go_ret
    exact ⟨rfl, rfl⟩
  · have h2 : n < 1 := by omega
    clear h
    go_enter Tryz.func40, Tryz.ntmps40
    go_wp2
    go_ret
    exact ⟨rfl, rfl⟩
theorem info5 : (Tryz.prog.info? 5).map (fun i => (i.zero, i.size, i.bytes)) = some (some (.int .u8 0), 1, 1) := by kernel_rfl
theorem number_yes (n k : Nat) (w : World) (h0 : n < 18446744073709551616) (h1 : 1 ≤ k) (h2 : k ≤ 8) (h3 : n < 2 ^ (8 * k)) :
    Calls Tryz.prog 15 #[.int .u64 n, .int .i64 k] w fun e w' => e = .returned (.tuple #[.string ⟨(be k n).toArray⟩, .int .i64 0]) ∧ Below w.heap.size w w' := by
  obtain ⟨i0, hi, hz0, hz1, hz2⟩ := info_parts info5
  have hb2 : i0.bytes * k ≤ 281474976710656 := by rw [hz2]; omega
  have hb3 : k ≤ maxLen := by unfold maxLen; omega
  have hsh : ((n : Int) / 2 ^ (8 * k) != 0) = false := by
    have : (n : Int) / 2 ^ (8 * k) = 0 := Int.ediv_eq_zero_of_lt (by omega) (by exact_mod_cast h3)
    simp [this]
  clear h3
  go_enter Tryz.func15, Tryz.ntmps15
  go_wp2_with (first
    | (go_at_call 40; refine (rightW _ (by omega) (by omega) _).mono ?_; rintro e w' ⟨rfl, rfl⟩)
    | (at_make; go_loud (refine wpList_make_full _ rfl _ _ 60 rfl w.heap.size 5 i0 (.int .u8 0) 1 Tryz.underlying60 hi hz0 hz1 .i64 .i64 _ _ k rfl rfl rfl rfl hb2 hb3 (Nat.le_refl _) ?_); intro w1 hown hgr))
  have hs0 := hgr.size
  go_loopw [22] (fun v wr => ∃ i : Nat, i ≤ k ∧ v = .int .i64 i ∧ wr.ownsRow w.heap.size 5 1 (.slice (some ⟨w.heap.size, 0, none⟩) k k) k (u8s (fill k n i)) ∧ Below w.heap.size w wr) (fun v _ => k - (intOf v).toNat)
  case atStart =>
    refine ⟨0, Nat.zero_le _, rfl, ?_, (Below.refl _ _).grown hgr (Nat.le_refl _) (by intro k h; cases h)⟩
    have e : (madeCells (Value.int IntKind.u8 0).cells (k * 1)).toList = u8s (fill k n 0) := by
      rw [fill_zero]
      simp [u8s, Value.cells, toList_madeCells_one]
    rw [e] at hown
    exact hown
  case round =>
    obtain ⟨i, hile, rfl, hown', hbel⟩ := hrel
    clear hgr hown hi hz0 hz1 hz2 hb2 hb3
    by_cases hlt : i < k
    · have hfr := hown'.frozenAt i
      obtain ⟨x, hce⟩ : ∃ x, wr.cell? ⟨w.heap.size, i, none⟩ = some (.int .u8 x) := by
        rw [hown'.cellAt i (by omega), u8s_get _ _ (by rw [fill_length _ _ _ (by omega)]; omega)]
        exact ⟨_, rfl⟩
      have hbk : 0 ≤ (k : Int) - 1 - i := by omega
      have hst := hown'.stored i (.int .u8 ((UInt8.ofNat (n / 256 ^ (k - 1 - i))).toNat : Int))
      rw [u8s_set, fill_set k n i hlt] at hst
      have ev : ((UInt8.ofNat (n / 256 ^ (k - 1 - i))).toNat : Int) = (n : Int) / 2 ^ (8 * (k - 1 - i)) % 256 := by
        rw [← pow_256]
        simp
      rw [ev] at hst
      have hb' := hbel.grown hst.2 hbel.size (by intro q h; cases h; exact Nat.le_refl _)
      have HO := Lib.hid hst.1
      clear hst ev hown'
      go_wp2
      go_roundw
      case rel => exact ⟨i + 1, by omega, by go_num, HO.out, hb'⟩
      case measure => simp [intOf]; omega
    · have hik : i = k := by omega
      subst hik
      rw [fill_all] at hown'
      have hcv := run_convert_bytes_back (P := Tryz.prog) wr 60 9 5 ⟨w.heap.size, 0, none⟩ i (be i n) Tryz.underlying60 Tryz.underlying5 Tryz.underlying9 (by
        intro j hj
        have hplain : (⟨w.heap.size, 0, none⟩ : Addr).add j = ⟨w.heap.size, j, none⟩ := by unfold Addr.add; split <;> simp_all
        rw [hplain]
        rw [be_length] at hj
        have := hown'.cellAt j (by omega)
        rw [u8s_get _ _ (by rw [be_length]; omega)] at this
        simpa using this)
      rw [be_length] at hcv
      clear hown'
      go_wp2
      go_ret2
      exact ⟨rfl, hbel⟩

theorem number_range (n k : Int) (w : World) (h : ¬ (1 ≤ k ∧ k ≤ 8)) :
    Calls Tryz.prog 15 #[.int .u64 n, .int .i64 k] w fun e w' => e = .returned (.tuple #[.string ByteArray.empty, .int .i64 1]) ∧ w = w' := by
  have H := Lib.hid h; clear h
  go_enter Tryz.func15, Tryz.ntmps15
  go_wp2_with (first
    | (go_at_call 40; refine (rightW_no _ H.out _).mono ?_; rintro e w' ⟨rfl, rfl⟩))
  go_ret2
  exact ⟨rfl, rfl⟩
theorem number_big (n k : Nat) (w : World) (h0 : n < 18446744073709551616) (h1 : 1 ≤ k) (h2 : k ≤ 8) (h3 : ¬ n < 256 ^ k) :
    Calls Tryz.prog 15 #[.int .u64 n, .int .i64 k] w fun e w' => e = .returned (.tuple #[.string ByteArray.empty, .int .i64 1]) ∧ w = w' := by
  have hsh : ((n : Int) / 2 ^ (8 * k) != 0) = true := by
    have : n / 2 ^ (8 * k) ≠ 0 := by
      rw [pow_256]
      intro e
      rcases Nat.div_eq_zero_iff.1 e with h | h
      · have : 0 < 256 ^ k := Nat.pow_pos (by omega)
        omega
      · exact h3 h
    simp
    exact_mod_cast this
  clear h3
  go_enter Tryz.func15, Tryz.ntmps15
  go_wp2_with (first
    | (go_at_call 40; refine (rightW _ (by omega) (by omega) _).mono ?_; rintro e w' ⟨rfl, rfl⟩))
  go_ret2
  exact ⟨rfl, rfl⟩
theorem take_range (s : ByteArray) (k : Int) (w : World) (h : ¬ (1 ≤ k ∧ k ≤ 8)) :
    Calls Tryz.prog 150 #[.string s, .int .i64 k] w fun e w' => e = .returned (.tuple #[.int .u64 0, .string ByteArray.empty, .int .i64 1]) ∧ w = w' := by
  have H := Lib.hid h; clear h
  go_enter Tryz.func150, Tryz.ntmps150
  go_wp2_with (first
    | (go_at_call 40; refine (rightW_no _ H.out _).mono ?_; rintro e w' ⟨rfl, rfl⟩))
  go_ret3
  exact ⟨rfl, rfl⟩
theorem take_more (s : ByteArray) (k : Nat) (w : World) (h1 : 1 ≤ k) (h2 : k ≤ 8) (h3 : s.size < k) :
    Calls Tryz.prog 150 #[.string s, .int .i64 k] w fun e w' => e = .returned (.tuple #[.int .u64 0, .string ByteArray.empty, .int .i64 3]) ∧ w = w' := by
  go_enter Tryz.func150, Tryz.ntmps150
  go_wp2_with (first
    | (go_at_call 40; refine (rightW _ (by omega) (by omega) _).mono ?_; rintro e w' ⟨rfl, rfl⟩))
  go_ret3
  exact ⟨rfl, rfl⟩
theorem take_snoc (s : ByteArray) (k : Nat) (h : k < s.size) : s.data.toList.take (k + 1) = s.data.toList.take k ++ [s[k]] := by
  rw [List.take_succ_eq_append_getElem (by simpa using h)]; rfl
theorem num_small (l : List UInt8) (i : Nat) (h : i ≤ 7) : num (l.take i) < 72057594037927936 := by
  have h1 := num_lt (l.take i)
  have h2 : (l.take i).length ≤ 7 := by rw [List.length_take]; omega
  have h3 := Nat.pow_le_pow_right (show 256 > 0 by omega) h2
  omega
theorem or_byte (m : Nat) (b : UInt8) (h : m < 72057594037927936) : bits BinOp.or IntKind.u64 ((m : Int) * 256) (IntKind.u64.wrap (b.toNat : Int)) = ((m * 256 + b.toNat : Nat) : Int) := by
  have hb := b.toNat_lt
  have hw : IntKind.u64.wrap (b.toNat : Int) = ((b.toNat : Nat) : Int) := by rw [IntKind.wrap_u64]; omega
  have e : ((m : Int) * 256) = ((m * 256 : Nat) : Int) := by omega
  rw [hw, e, bits_or_u64_nat _ _ (by omega) (by omega)]
  congr 1
  have := Nat.shiftLeft_add_eq_or_of_lt (a := m) (b := b.toNat) (i := 8) (by omega)
  rw [Nat.shiftLeft_eq] at this
  exact this.symm
theorem take_yes (s : ByteArray) (k : Nat) (w : World) (h1 : 1 ≤ k) (h2 : k ≤ 8) (h3 : k ≤ s.size) (h4 : s.size ≤ maxLen) :
    Calls Tryz.prog 150 #[.string s, .int .i64 k] w fun e w' => e = .returned (.tuple #[.int .u64 (num (s.data.toList.take k) : Nat), .string (s.extract k s.size), .int .i64 0]) ∧ ∃ q, w' = w.drewN q := by
  unfold maxLen at h4
  have hd : decide (s.size < k) = false := by simp; omega
  go_enter Tryz.func150, Tryz.ntmps150
  go_wp2_with (first
    | (go_at_call 40; refine (rightW _ (by omega) (by omega) _).mono ?_; rintro e w' ⟨rfl, rfl⟩))
  go_loop [7, 17] (fun t v => ∃ i : Nat, i ≤ k ∧ v = .int .i64 i ∧ t = .int .u64 (num (s.data.toList.take i) : Nat)) (fun _ v => k - (intOf v).toNat)
  case atStart => exact ⟨0, Nat.zero_le _, rfl, rfl⟩
  case round =>
    obtain ⟨i, hi, rfl, rfl⟩ := hrel
    by_cases hlt : i < k
    · have hb := num_small s.data.toList i (by omega)
      have hx : i < s.size := by omega
      have HS : Hid (bits BinOp.or IntKind.u64 ((num (s.data.toList.take i) : Int) * 256) (IntKind.u64.wrap ((s[i]).toNat : Int)) = ((num (s.data.toList.take (i + 1)) : Nat) : Int)) := by
        rw [take_snoc s i hx, num_snoc]
        exact or_byte _ _ hb
      go_wp2
      go_round
      case rel => exact ⟨i + 1, by omega, by go_num, congrArg (Value.int .u64) HS.out⟩
      case measure => simp [intOf]; omega
    · obtain rfl : i = k := by omega
      go_wp2
      go_quiet (fail)
      go_wp2
      go_ret3
      exact ⟨rfl, _, rfl⟩
end Go.Proofs.YtjkmfonngbendaaGreatDoor.Pk
