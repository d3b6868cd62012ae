/- Contracts of package hash's Hex and of the document's Hex. -/
import Derived.Test.YtglciacjfoimlaaDoorHexV
import Derived.LoopTactic
import Derived.OwnWalk
import Derived.Deep.RegionHeldLaw
import Derived.Deep.AppendLies
import Derived.Laws.IdiomStrings
import Derived.Laws.BitsAllLaws
namespace Go.Proofs.YtglciacjfoimlaaDoor.Hc
set_option linter.unusedVariables false
open Go.ChangeShapes Go.WideShapes Go.ChangeAt Go.RowKit
open Pk (u8s u8s_length u8s_set u8s_get)
theorem info5 : (Tryd.prog.info? 5).map (fun i => (i.zero, i.size, i.bytes)) = some (some (.int .u8 0), 1, 1) := by kernel_rfl
theorem infoH {l : List UInt8} (h : l.length = 32) : (Tryd.prog.info? 23).map (·.size) = some (u8s l).toArray.size := by
  rw [List.size_toArray, u8s_length, h]; kernel_rfl
theorem run_index_at {C : Array Value} {l : List UInt8} (hC : C = (u8s l).toArray) (hl : l.length = 32) (i : Nat) (b : UInt8) (hb : l[i]? = some b) (w : World) : (Instr.index 23 (.agg C) (.int .i64 i)).run Tryd.prog w = .ok (.int .u8 b.toNat) w := by
  have hi : i < 32 := by have := (List.getElem?_eq_some_iff.1 hb).1; omega
  have h0 : C[i]? = some (.int .u8 (b.toNat : Int)) := by rw [hC]; simp [u8s, hb]
  have hz : C.size = 32 := by rw [hC, List.size_toArray, u8s_length, hl]
  simp [Instr.index, run_underlying Tryd.underlying23, asIntOf, go_sem, hz, hi]
  exact Option.some.inj ((Array.getElem?_eq_getElem (by omega)).symm.trans h0)
def digitsS : ByteArray := ⟨#[48, 49, 50, 51, 52, 53, 54, 55, 56, 57, 97, 98, 99, 100, 101, 102]⟩
theorem digits_get (k : Nat) (h : k < 16) : digitsS.data[k]? = some (hd k) := by
  have e : ∀ j : Fin 16, digitsS.data[j.val]? = some (hd j.val) := by decide
  exact e ⟨k, h⟩
theorem digit_at (k : Nat) (h : k < 16) : (digitsS[k]'(show k < 16 from h)).toNat = (hd k).toNat := by
  have hg := digits_get k h
  have hx : digitsS.data[k]'(by show k < 16; exact h) = hd k := by
    rw [Array.getElem?_eq_getElem (by show k < 16; exact h)] at hg
    exact Option.some.inj hg
  exact congrArg (fun b : UInt8 => b.toNat) hx
theorem own_base {w : World} {base g n m c size : Nat} {e : TypeId} {xs : List Value} (h : w.ownsRow base e size (.slice (some ⟨g, 0, none⟩) n c) m xs) : base ≤ g := by
  rcases h.2 with ⟨h, _⟩ | ⟨g', cap', cur, hv, hb, _⟩
  · cases h
  · cases hv
    exact hb
theorem and15 (n : Nat) (h : n < 256) : bits BinOp.and IntKind.u8 (n : Int) 15 = (n : Int) % 16 := by
  have e : ∀ j : Fin 256, bits BinOp.and IntKind.u8 (j.val : Int) 15 = (j.val : Int) % 16 := by decide +kernel
  exact e ⟨n, h⟩
theorem u8s_two (a b : UInt8) : u8s [a, b] = [.int .u8 a.toNat, .int .u8 b.toNat] := rfl
theorem u8s_append (a b : List UInt8) : u8s (a ++ b) = u8s a ++ u8s b := by simp [u8s]
theorem take_succ_some {l : List UInt8} {i : Nat} {b : UInt8} (h : l[i]? = some b) : l.take (i + 1) = l.take i ++ [b] := by
  rw [List.take_add_one, h]; rfl
set_option maxRecDepth 100000 in
set_option maxHeartbeats 500000 in
theorem hex_any (l : List UInt8) (hl : l.length = 32) (w : World) :
    Calls Tryd.prog 10 #[.agg (u8s l).toArray] w fun e w' => e = .returned (.string ⟨(hexL l).toArray⟩) ∧ Below w.heap.size w w' := by
  obtain ⟨i0, hi, hz0, hz1, hz2⟩ := info_parts info5
  obtain ⟨C, hC⟩ : ∃ C, C = (u8s l).toArray := ⟨_, rfl⟩
  have hI := infoH hl
  rw [← hC] at hI ⊢
  have HC := Lib.hid hC
  have I := Lib.hid hI
  clear hC hI
  go_enter Tryd.func10, Tryd.ntmps10
  go_wp2_with (first
    | (at_make; go_loud (refine wpList_make_own _ rfl _ _ 40 rfl w.heap.size 5 i0 (.int .u8 0) 1 Tryd.underlying40 hi hz0 hz1 .i64 .i64 _ 64 rfl rfl rfl (by rw [hz2]; omega) (by unfold maxLen; omega) (by simp) ?_); intro w1 hown hgr)
    | (refine wpList_load_row rfl 23 (.tmp 1) rfl w.heap.size rfl 23 C (0, 0) _ ((hgr.block _ (by simp) (by intro h; cases h)).trans (heap_alloc_new w _)) Tryd.underlying23 rfl I.out ?_))
  have hb0 : Below w.heap.size w w1 := ((Below.refl _ _).alloc (Nat.le_refl _) _).grown hgr (by simp) (by intro k h; cases h)
  clear hgr
  go_loopw [3, 8] (fun v t wr => ∃ i g cap : Nat, i ≤ 32 ∧ t = .int .i64 i ∧ v = .slice (some ⟨g, 0, none⟩) (2 * i) cap ∧ wr.ownsRow w.heap.size 5 1 v (2 * i) (u8s (hexL (l.take i))) ∧ Below w.heap.size w wr) (fun _ t _ => 32 - (intOf t).toNat)
  case atStart => exact ⟨0, _, 64, Nat.zero_le _, rfl, rfl, by simpa [hexL, u8s] using hown, hb0⟩
  case round =>
    clear hown hb0
    obtain ⟨i, g, cap, hile, rfl, rfl, hown, hbel⟩ := hrel
    by_cases hlt : i < 32
    · obtain ⟨b, hb⟩ : ∃ b, l[i]? = some b := ⟨_, List.getElem?_eq_getElem (by omega)⟩
      have hix := run_index_at HC.out hl i b hb
      have hbl := b.toNat_lt
      have hd1 := digit_at (b.toNat / 16) (by omega)
      have hd2 := digit_at (b.toNat % 16) (by omega)
      have hbt := and15 b.toNat (by omega)
      have HE := Lib.hid (show u8s (hexL (l.take (i + 1))) = u8s (hexL (l.take i)) ++ [.int .u8 (hd (b.toNat / 16)).toNat, .int .u8 (hd (b.toNat % 16)).toNat] by
        rw [take_succ_some hb, hexL_append, u8s_append]; rfl)
      unfold digitsS at hd1 hd2
      have p0 : (0 : Int) ≤ (b.toNat : Int) / 16 := by omega
      have p1 : (b.toNat : Int) / 16 < 16 := by omega
      have p2 : (0 : Int) ≤ (b.toNat : Int) % 16 := by omega
      have p3 : (b.toNat : Int) % 16 < 16 := by omega
      have p4 : ((b.toNat : Int) / 16).toNat = b.toNat / 16 := by omega
      have p5 : ((b.toNat : Int) % 16).toNat = b.toNat % 16 := by omega
      have p6 : b.toNat / 16 < 16 := by omega
      have p7 : b.toNat % 16 < 16 := by omega
      clear hb
      generalize hd (b.toNat / 16) = x at *
      generalize hd (b.toNat % 16) = y at *
      generalize u8s (hexL (l.take i)) = xs at *
      go_wp2_with fail
      go_region_held_law (fun _ => True) (trivial)
        ((refine step_append_lies _ (by rfl) _ _ _ (by rfl) w.heap.size 5 i0 (.int .u8 0) 1 1 Tryd.underlying40 hi hz0 hz1 hz2 rfl (by omega) _ (2 * i) xs (by rfl) ((hown.alloc _).drew) ⟨wr.heap.size, 0, none⟩ 2 2 [.int .u8 x.toNat, .int .u8 y.toNat] (by rfl) (by rfl) (World.news_of_block (cs := #[.int .u8 x.toNat, .int .u8 y.toNat]) (t := 5) (fr := (0, 0)) (heap_alloc_new wr _)) (by simp [Value.oneCell']) (by omega) (by unfold maxLen; omega) (by omega) (by have := hbel.size; simp; omega) (wr.heap.size + 1) (by simp) ?_; intro gg cap1 w2 hown1 hgrow hat hlt2))
      all_goals
        have hb2 : Below w.heap.size w w2 := ((hbel.alloc hbel.size _).drew).grown hgrow (by have := hbel.size; simp; omega) (by
          intro k hk
          simp [Value.ownBlock] at hk
          subst hk
          exact own_base hown)
        have HO := Lib.hid hown1
        clear hown hown1 hgrow hbel hat
        go_wp2
        go_roundw
        case rel => exact ⟨i + 1, gg, cap1, by omega, by go_num, rfl, by rw [HE.out]; exact HO.out, hb2⟩
        case measure => simp [intOf]; omega
    · obtain rfl : i = 32 := by omega
      have hlz : (hexL l).length = 64 := by rw [hexL_length, hl]
      have hcv := run_convert_bytes_back (P := Tryd.prog) wr 40 9 5 ⟨g, 0, none⟩ cap (hexL l) Tryd.underlying40 Tryd.underlying5 Tryd.underlying9 (by
        intro j hj
        have hplain : (⟨g, 0, none⟩ : Addr).add j = ⟨g, j, none⟩ := by unfold Addr.add; split <;> simp_all
        rw [hplain]
        have := hown.cellAt j (by omega)
        rw [List.take_of_length_le (by omega), u8s_get _ _ hj] at this
        simpa using this)
      rw [hlz] at hcv
      clear hown
      go_wp2
      go_ret
      exact ⟨rfl, hbel⟩
end Go.Proofs.YtglciacjfoimlaaDoor.Hc
