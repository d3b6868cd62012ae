/- Contract of the document's Hex. -/
import Derived.Test.YteelickbdigpkaaHexW
namespace Go.Proofs.Yteelickbdigpkaa.Hc
set_option linter.unusedVariables false
open Go.ChangeShapes Go.WideShapes Go.ChangeAt Go.RowKit
open Pk (u8s u8s_length u8s_set u8s_get)
theorem digit_cut (k : Nat) (h : k < 16) : digitsS.extract k (k + 1) = ⟨#[hd k]⟩ := by
  have e : ∀ j : Fin 16, (digitsS.extract j.val (j.val + 1)).data = #[hd j.val] := by decide
  exact ByteArray.ext (e ⟨k, h⟩)
theorem two_digits (l : List UInt8) (n : Nat) (h : n < 256) (p q : Int) (hp : p = (n : Int) / 16) (hq : q = (n : Int) % 16) :
    (⟨l.toArray⟩ : ByteArray) ++ (digitsS.extract p.toNat (p + 1).toNat ++ digitsS.extract q.toNat (q + 1).toNat) = ⟨(l ++ [hd (n / 16), hd (n % 16)]).toArray⟩ := by
  subst hp hq
  rw [show ((n : Int) / 16).toNat = n / 16 by omega, show ((n : Int) / 16 + 1).toNat = n / 16 + 1 by omega, show ((n : Int) % 16).toNat = n % 16 by omega, show ((n : Int) % 16 + 1).toNat = n % 16 + 1 by omega, digit_cut _ (by omega), digit_cut _ (by omega)]
  apply ByteArray.ext
  simp
set_option maxRecDepth 100000 in
set_option maxHeartbeats 500000 in
theorem refhex_any (l : List UInt8) (hl : l.length = 32) (w : World) :
    Calls Try.prog 11 #[.agg (u8s l).toArray] w fun e w' => e = .returned (.string ⟨(hexL l).toArray⟩) ∧ Below w.heap.size w w' := by
  obtain ⟨C, hC⟩ : ∃ C, C = (u8s l).toArray := ⟨_, rfl⟩
  have hI := infoH hl
  rw [← hC] at hI ⊢
  have HC := Lib.hid hC
  have I := Lib.hid hI
  clear hC hI
  go_enter Try.func11, Try.ntmps11
  go_wp2_with (first
    | (refine wpList_load_row rfl 22 (.tmp 1) rfl w.heap.size rfl 22 C (0, 0) _ (heap_alloc_new w _) Try.underlying22 rfl I.out ?_))
  go_loopw [3, 7] (fun v t wr => ∃ i : Nat, i ≤ 32 ∧ t = .int .i64 i ∧ v = .string ⟨(hexL (l.take i)).toArray⟩ ∧ Below w.heap.size w wr) (fun _ t _ => 32 - (intOf t).toNat)
  case atStart => exact ⟨0, Nat.zero_le _, rfl, rfl, (Below.refl _ _).alloc (Nat.le_refl _) _⟩
  case round =>
    obtain ⟨i, hile, rfl, rfl, hbel⟩ := hrel
    by_cases hlt : i < 32
    · obtain ⟨b, hb⟩ : ∃ b, l[i]? = some b := ⟨_, List.getElem?_eq_getElem (by omega)⟩
      have hix := run_index_at HC.out hl i b hb
      have hbl := b.toNat_lt
      have p0 : (0 : Int) ≤ (b.toNat : Int) / 16 := by omega
      have p1 : (b.toNat : Int) / 16 < 16 := by omega
      have p2 : (0 : Int) ≤ (b.toNat : Int) % 16 := by omega
      have p3 : (b.toNat : Int) % 16 < 16 := by omega
      have p4 : (b.toNat : Int) / 16 + 1 ≤ 16 := by omega
      have p5 : (b.toNat : Int) % 16 + 1 ≤ 16 := by omega
      have p6 : (b.toNat : Int) / 16 ≤ (b.toNat : Int) / 16 + 1 := by omega
      have p7 : (b.toNat : Int) % 16 ≤ (b.toNat : Int) % 16 + 1 := by omega
      have p8 : (0 : Int) ≤ (b.toNat : Int) / 16 + 1 := by omega
      have p9 : (0 : Int) ≤ (b.toNat : Int) % 16 + 1 := by omega
      have W1 := Lib.hid (show IntKind.u8.wrap ((b.toNat : Int) / 16) = (b.toNat : Int) / 16 by rw [IntKind.wrap_u8]; omega)
      have W2 := Lib.hid (show IntKind.u8.wrap ((b.toNat : Int) / 16 + 1) = (b.toNat : Int) / 16 + 1 by rw [IntKind.wrap_u8]; omega)
      have W3 := Lib.hid (show IntKind.u8.wrap ((b.toNat : Int) % 16) = (b.toNat : Int) % 16 by rw [IntKind.wrap_u8]; omega)
      have W4 := Lib.hid (show IntKind.u8.wrap ((b.toNat : Int) % 16 + 1) = (b.toNat : Int) % 16 + 1 by rw [IntKind.wrap_u8]; omega)
      have hE := two_digits (hexL (l.take i)) b.toNat (by omega) _ _ rfl rfl
      rw [show hexL (l.take i) ++ [hd (b.toNat / 16), hd (b.toNat % 16)] = hexL (l.take (i + 1)) by rw [take_succ_some hb, hexL_append]; rfl] at hE
      obtain ⟨X, hX⟩ : ∃ X, X = digitsS.extract ((b.toNat : Int) / 16).toNat ((b.toNat : Int) / 16 + 1).toNat := ⟨_, rfl⟩
      obtain ⟨Y, hY⟩ : ∃ Y, Y = digitsS.extract ((b.toNat : Int) % 16).toNat ((b.toNat : Int) % 16 + 1).toNat := ⟨_, rfl⟩
      have z1 : X.size = 1 := by rw [hX, ByteArray.size_extract, show digitsS.size = 16 from rfl]; omega
      have z2 : Y.size = 1 := by rw [hY, ByteArray.size_extract, show digitsS.size = 16 from rfl]; omega
      have hA : (⟨(hexL (l.take i)).toArray⟩ : ByteArray).size ≤ 64 := by
        show (hexL (l.take i)).toArray.size ≤ 64
        rw [List.size_toArray, hexL_length, List.length_take]; omega
      rw [← hX, ← hY] at hE
      unfold digitsS at hX hY
      have HE := Lib.hid hE
      have HX := Lib.hid hX.symm
      have HY := Lib.hid hY.symm
      clear hE hX hY
      have ht : Int.tmod (b.toNat : Int) 16 = (b.toNat : Int) % 16 := Int.tmod_eq_emod_of_nonneg (by omega)
      generalize (⟨(hexL (l.take i)).toArray⟩ : ByteArray) = A at *
      go_wp2
      have w1 := W1.out
      have w2 := W2.out
      have w3 := W3.out
      have w4 := W4.out
      have ex := HX.out
      have ey := HY.out
      go_quiet (fail)
      clear w1 w2 w3 w4 ex ey ht
      have hb2 : Below w.heap.size w (wr.drewN nq) := ⟨hbel.os, hbel.tape, hbel.output, hbel.size, hbel.block⟩
      generalize wr.drewN nq = V at *
      go_wp2
      go_roundw
      case rel => exact ⟨i + 1, by omega, by go_num, congrArg Value.string HE.out, hb2⟩
      case measure => simp [intOf]; omega
    · obtain rfl : i = 32 := by omega
      rw [List.take_of_length_le (by omega)]
      go_wp2
      go_ret
      exact ⟨rfl, hbel⟩
end Go.Proofs.Yteelickbdigpkaa.Hc
