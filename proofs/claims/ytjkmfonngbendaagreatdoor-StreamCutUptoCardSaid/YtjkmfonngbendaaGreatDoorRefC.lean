/- Contracts of the document's own answers for numbers and texts (cambiumref01), each for every argument: they are those of package pack. -/
import Derived.Test.YtjkmfonngbendaaGreatDoorPackB
namespace Go.Proofs.YtjkmfonngbendaaGreatDoor.Pk
set_option linter.unusedVariables false
open Go.ChangeShapes Go.WideShapes Go.ChangeAt Go.RowKit
theorem conv_one (W : World) (b : UInt8) : (convert 60 9 (.slice (some ⟨W.heap.size, 0, none⟩) 1 1)).run Tryz.prog (W.alloc (.cells #[.int .u8 (b.toNat : Int)] 5)) = .ok (.string (bs [b])) (W.alloc (.cells #[.int .u8 (b.toNat : Int)] 5)) :=
  run_convert_bytes_back (P := Tryz.prog) (W.alloc (.cells #[.int .u8 (b.toNat : Int)] 5)) 60 9 5 ⟨W.heap.size, 0, none⟩ 1 [b] Tryz.underlying60 Tryz.underlying5 Tryz.underlying9 (by
    intro j hj
    match j, hj with
    | 0, hj => simp [Addr.add])
theorem bs_append (a b : List UInt8) : bs a ++ bs b = bs (a ++ b) := by
  apply ByteArray.ext
  simp [bs]
theorem bs_size (l : List UInt8) : (bs l).size = l.length := by show l.toArray.size = _; rw [List.size_toArray]
theorem be_cons (i n : Nat) : UInt8.ofNat (n / 256 ^ i) :: be i n = be (i + 1) n := by
  induction i generalizing n with
  | zero => simp [be]
  | succ i ih =>
    rw [be, ← List.cons_append, be, ← ih (n / 256), Nat.div_div_eq_div_mul, Nat.pow_succ, Nat.mul_comm]
theorem div_step (n i : Nat) (h0 : n < 18446744073709551616) : IntKind.u64.wrap (((n : Int) / 256 ^ i).tdiv 256) = (n : Int) / 256 ^ i / 256 := by
  have e : (n : Int) / 256 ^ i = ((n / 256 ^ i : Nat) : Int) := by simp
  have hl : n / 256 ^ i ≤ n := Nat.div_le_self _ _
  rw [e]
  clear e
  generalize n / 256 ^ i = q at *
  rw [Int.tdiv_eq_ediv_of_nonneg (by omega), IntKind.wrap_u64]
  omega
theorem ref_bytes (n k : Nat) (w : World) (h0 : n < 18446744073709551616) (h2 : k ≤ 8) :
    Calls Tryz.prog 62 #[.int .u64 n, .int .i64 k] w fun e w' => e = .returned (.string (bs (be k n))) ∧ Below w.heap.size w w' := by
  go_enter Tryz.func62, Tryz.ntmps62
  go_wp2
  go_loopw [0, 5, 6] (fun a t v wr => ∃ i : Nat, i ≤ k ∧ v = .int .i64 i ∧ a = .int .u64 (n / 256 ^ i : Nat) ∧ t = .string (bs (be i n)) ∧ Below w.heap.size w wr) (fun _ _ v _ => k - (intOf v).toNat)
  case atStart => exact ⟨0, Nat.zero_le _, rfl, by simp, rfl, Below.refl _ _⟩
  case round =>
    obtain ⟨i, hi, rfl, rfl, rfl, hbel⟩ := hrel
    by_cases hlt : i < k
    · have hcv := conv_one wr (UInt8.ofNat (n / 256 ^ i))
      have ev : ((UInt8.ofNat (n / 256 ^ i)).toNat : Int) = (n : Int) / 256 ^ i % 256 := by simp
      rw [ev] at hcv
      have hz1 : (bs [UInt8.ofNat (n / 256 ^ i)]).size ≤ 1 := by rw [bs_size]; exact Nat.le_refl _
      have hz2 : (bs (be i n)).size ≤ 8 := by rw [bs_size, be_length]; omega
      have hb' := hbel.alloc (hbel.size) (.cells #[.int .u8 ((n : Int) / 256 ^ i % 256)] 5)
      clear ev
      go_wp2
      go_roundw
      case rel => exact ⟨i + 1, by omega, by go_num, by rw [Nat.pow_succ, ← Nat.div_div_eq_div_mul]; simp; exact div_step n i h0, by rw [bs_append, List.singleton_append, be_cons], hb'⟩
      case measure => simp [intOf]; omega
    · obtain rfl : i = k := by omega
      go_wp2
      go_ret
      exact ⟨rfl, hbel⟩
theorem ref_take_any (s : ByteArray) (k : Int) (w : World) (h4 : s.size ≤ maxLen) :
    Calls Tryz.prog 108 #[.string s, .int .i64 k] w fun e w' => e = .returned (.tuple #[.int .u64 (tN s k), .string (tR s k), .int .i64 (tE s k)]) ∧ Below w.heap.size w w' := by
  unfold maxLen at h4
  by_cases hk : 1 ≤ k ∧ k ≤ 8
  · obtain ⟨m, rfl⟩ : ∃ m : Nat, k = m := ⟨k.toNat, by omega⟩
    have h1 : 1 ≤ m := by omega
    have h2 : m ≤ 8 := by omega
    have hbig : decide (8 < (m : Int)) = false := by simp; omega
    by_cases hn : m ≤ s.size
    · have hc : 1 ≤ (m : Int) ∧ (m : Int) ≤ 8 ∧ (m : Int).toNat ≤ s.size := ⟨hk.1, hk.2, by simpa using hn⟩
      have HC := Lib.hid hc
      have hd : decide (s.size < m) = false := by simp; omega
      clear hc hk
      go_enter Tryz.func108, Tryz.ntmps108
      go_wp2
      go_loop [7, 8] (fun t v => ∃ i : Nat, i ≤ m ∧ v = .int .i64 i ∧ t = .int .u64 (num (s.data.toList.take i) : Nat)) (fun _ v => m - (intOf v).toNat)
      case atStart => exact ⟨0, Nat.zero_le _, rfl, rfl⟩
      case round =>
        obtain ⟨i, hi, rfl, rfl⟩ := hrel
        by_cases hlt : i < m
        · have hb := num_small s.data.toList i (by omega)
          have hx : i < s.size := by omega
          have hb2 := (s[i]).toNat_lt
          have HS : Hid (num (s.data.toList.take (i + 1)) = num (s.data.toList.take i) * 256 + (s[i]).toNat) := by
            rw [take_snoc s i hx, num_snoc]
            exact rfl
          go_wp2
          go_round
          case rel => exact ⟨i + 1, by omega, by go_num, by rw [HS.out]; go_num⟩
          case measure => simp [intOf]; omega
        · obtain rfl : i = m := by omega
          go_wp2
          go_quiet (fail)
          go_wp2
          go_ret3
          refine ⟨ret3 ?_ ?_ ?_, ⟨rfl, rfl, rfl, Nat.le_refl _, fun _ _ => rfl⟩⟩
          · rw [tN, if_pos HC.out, Int.toNat_natCast]
          · rw [tR, if_pos HC.out, Int.toNat_natCast]
          · rw [tE, if_pos ⟨HC.out.1, HC.out.2.1⟩, if_pos HC.out.2.2]
    · have hc : ¬ (1 ≤ (m : Int) ∧ (m : Int) ≤ 8 ∧ (m : Int).toNat ≤ s.size) := fun h => hn (by simpa using h.2.2)
      have HC := Lib.hid hc
      have HK := Lib.hid hk
      clear hc hk
      have hd : decide (s.size < m) = true := by simp; omega
      go_enter Tryz.func108, Tryz.ntmps108
      go_wp2
      go_ret3
      refine ⟨ret3 ?_ ?_ ?_, Below.refl _ _⟩
      · rw [tN, if_neg HC.out]
      · rw [tR, if_neg HC.out]; rfl
      · rw [tE, if_pos HK.out, if_neg (by simpa using hn)]
  · have hc : ¬ (1 ≤ k ∧ k ≤ 8 ∧ k.toNat ≤ s.size) := fun h => hk ⟨h.1, h.2.1⟩
    have HC := Lib.hid hc
    have HK := Lib.hid hk
    by_cases h1 : 1 ≤ k
    · have h2 : 8 < k := by omega
      clear hk hc
      go_enter Tryz.func108, Tryz.ntmps108
      go_wp2
      go_ret3
      refine ⟨ret3 ?_ ?_ ?_, Below.refl _ _⟩
      · rw [tN, if_neg HC.out]
      · rw [tR, if_neg HC.out]; rfl
      · rw [tE, if_neg HK.out]
    · have h2 : k < 1 := by omega
      clear hk hc h1
      go_enter Tryz.func108, Tryz.ntmps108
      go_wp2
      go_ret3
      refine ⟨ret3 ?_ ?_ ?_, Below.refl _ _⟩
      · rw [tN, if_neg HC.out]
      · rw [tR, if_neg HC.out]; rfl
      · rw [tE, if_neg HK.out]
theorem ref_text_any (t : ByteArray) (w : World) :
    Calls Tryz.prog 147 #[.string t] w fun e w' => e = .returned (.tuple #[.string (xB t), .int .i64 (xE t)]) ∧ Below w.heap.size w w' := by
  by_cases h : t.size ≤ 65535
  · have hc := ref_bytes t.size 2 w (by omega) (by omega)
    have hz : (bs (be 2 t.size)).size ≤ 2 := by rw [bs_size, be_length]; exact Nat.le_refl _
    go_enter Tryz.func147, Tryz.ntmps147
    go_wp2_with (first
      | (go_at_call 62; refine hc.mono ?_; rintro e w' ⟨rfl, hbel⟩))
    go_ret2
    refine ⟨ret2 ?_ ?_, hbel⟩
    · rw [xB, if_pos h]
    · rw [xE, if_pos h]
  · have h' : 65535 < t.size := by omega
    have H := Lib.hid h
    clear h
    go_enter Tryz.func147, Tryz.ntmps147
    go_wp2
    go_ret2
    refine ⟨ret2 ?_ ?_, Below.refl _ _⟩
    · rw [xB, if_neg H.out]; rfl
    · rw [xE, if_neg H.out]
theorem below_q (w w1 : World) (q : Nat) (h : Below w.heap.size w w1) : Below w.heap.size w (w1.drewN q) := ⟨h.os, h.tape, h.output, h.size, h.block⟩
theorem ref_taketext_any (s : ByteArray) (w : World) (h4 : s.size ≤ maxLen) :
    Calls Tryz.prog 109 #[.string s] w fun e w' => e = .returned (.tuple #[.string (uT s), .string (uR s), .int .i64 (uE s)]) ∧ Below w.heap.size w w' := by
  have hc := ref_take_any s 2 w h4
  unfold maxLen at h4
  by_cases h2 : 2 ≤ s.size
  · have hcc : 1 ≤ (2 : Int) ∧ (2 : Int) ≤ 8 ∧ (2 : Int).toNat ≤ s.size := ⟨by omega, by omega, h2⟩
    rw [show tN s 2 = ((uN s : Nat) : Int) by rw [tN, if_pos hcc]; rfl, show tR s 2 = s.extract 2 s.size by rw [tR, if_pos hcc]; rfl, show tE s 2 = 0 by rw [tE, if_pos ⟨hcc.1, hcc.2.1⟩, if_pos hcc.2.2]] at hc
    obtain ⟨n, hn⟩ : ∃ n, n = uN s := ⟨_, rfl⟩
    rw [← hn] at hc
    have HN := Lib.hid hn
    clear hn hcc
    by_cases h3 : n ≤ s.size - 2
    · have hd : decide (s.size - 2 < n) = false := by simp; omega
      go_enter Tryz.func109, Tryz.ntmps109
      go_wp2_with (first
        | (go_at_call 108; refine hc.mono ?_; rintro e w' ⟨rfl, hb⟩))
      go_quiet (fail)
      go_wp2
      go_ret3
      have hok : uOk s = true := by unfold uOk; rw [decide_eq_true_eq, ← HN.out]; exact ⟨h2, h3⟩
      refine ⟨ret3s ?_ ?_ ?_, below_q _ _ _ hb⟩
      · rw [uT, if_pos hok, ← HN.out]
      · rw [uR, if_pos hok, ← HN.out]
      · rw [uE, if_pos hok]
    · have hd : s.size - 2 < n := by omega
      go_enter Tryz.func109, Tryz.ntmps109
      go_wp2_with (first
        | (go_at_call 108; refine hc.mono ?_; rintro e w' ⟨rfl, hb⟩))
      go_ret3
      have hok : ¬ uOk s = true := by unfold uOk; rw [decide_eq_true_eq, ← HN.out]; exact fun h => h3 h.2
      refine ⟨ret3s ?_ ?_ ?_, hb⟩
      · rw [uT, if_neg hok]; rfl
      · rw [uR, if_neg hok]; rfl
      · rw [uE, if_neg hok]
  · have hcc : ¬ (1 ≤ (2 : Int) ∧ (2 : Int) ≤ 8 ∧ (2 : Int).toNat ≤ s.size) := fun h => h2 h.2.2
    rw [show tN s 2 = 0 by rw [tN, if_neg hcc], show tR s 2 = ByteArray.empty by rw [tR, if_neg hcc], show tE s 2 = 3 by rw [tE, if_pos ⟨by omega, by omega⟩, if_neg (show ¬ ((2 : Int).toNat ≤ s.size) from h2)]] at hc
    have hok : ¬ uOk s = true := by unfold uOk; rw [decide_eq_true_eq]; exact fun h => h2 h.1
    have HO := Lib.hid hok
    clear hok hcc
    go_enter Tryz.func109, Tryz.ntmps109
    go_wp2_with (first
      | (go_at_call 108; refine hc.mono ?_; rintro e w' ⟨rfl, hb⟩))
    go_ret3
    refine ⟨ret3s ?_ ?_ ?_, hb⟩
    · rw [uT, if_neg HO.out]; rfl
    · rw [uR, if_neg HO.out]; rfl
    · rw [uE, if_neg HO.out]
end Go.Proofs.YtjkmfonngbendaaGreatDoor.Pk
