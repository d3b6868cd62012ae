/- Contract of package dev's fromLast$1: a range over it hands the writes that wait from the last one on, each with its place. -/
import Derived.RangeFuncNested
import Derived.RangeFuncBound
import Derived.RangeFuncCalls
import Derived.RangeFuncLeaves
import Derived.Shelf.Abstract
import Derived.OwnWalkIn
import Derived.TacticsInMore
import Derived.LoopNIn
import Derived.LoopIn
import Derived.Test.YtjkapmghifglcaaDoorDvL
namespace Go.Proofs.YtjkapmghifglcaaDoor.Dv
set_option linter.unusedVariables false
open Go.RowKit Go.Shelf
open Ar Rg St
attribute [local go_sem] Oper.semAt_some
/-- the last k of W, from the last one on, each with its place -/
def fl (W : List Bk) (k : Nat) : List (Nat × Bk) := (List.range k).map fun j => (W.length - 1 - j, W[W.length - 1 - j]?.getD ⟨0, ByteArray.empty⟩)
theorem fl_succ (W : List Bk) (k : Nat) : fl W (k + 1) = fl W k ++ [(W.length - 1 - k, W[W.length - 1 - k]?.getD ⟨0, ByteArray.empty⟩)] := by simp [fl, List.range_succ]
theorem fl_len (W : List Bk) (k : Nat) : (fl W k).length = k := by simp [fl]
theorem fl_step {W : List Bk} {i : Nat} {x : Bk} (hx : W[i]? = some x) : fl W (W.length - i) = fl W (W.length - (i + 1)) ++ [(i, x)] := by
  have hl := (List.getElem?_eq_some_iff.1 hx).1
  have e : W.length - i = (W.length - (i + 1)) + 1 := by omega
  rw [e, fl_succ, show W.length - 1 - (W.length - (i + 1)) = i by omega, hx]
  rfl
def encP (x : Nat × Bk) : Array Value := #[.int .i64 (x.1 : Int), .agg (enc x.2).toArray]
set_option maxRecDepth 100000 in
set_option maxHeartbeats 2000000 in
theorem last_in (F : Fence) (n : Nat) (hf : F.fn 72) (hro : F.round = none) (hn : 1 ≤ n) (l Bs n₀ : Nat) (A : Option Addr) (m c : Nat) (L : List Bk) (hm : m = L.length) (hlen : m ≤ 1099511627776) (J Jx : List (Nat × Bk) → World → Prop)
    (hY : ∀ pre x W, J pre W → pre.length < m → YieldAt F (n - 1) Tryd.prog l (encP x) W fun e W' =>
      (e = .returned (.bool true) ∧ J (pre ++ [x]) W' ∧ Below n₀ W W') ∨ (e = .returned (.bool false) ∧ Jx (pre ++ [x]) W'))
    (W : World) (hb : Bs < n₀) (hBs : W.cell? ⟨Bs, 2, none⟩ = some (.slice A m c)) (hc : Ls enc 2 W n₀ A L) (h0 : J [] W) :
    CallsIn F n Tryd.prog 72 #[.func (.yield l) #[] #[], .pointer (some ⟨Bs, 0, none⟩)] W fun e W' => (∃ v, e = .returned v) ∧
      ((∃ ys, ys = fl L m ∧ J ys W') ∨ (∃ pre, (∃ k, k ≤ m ∧ pre = fl L k) ∧ Jx pre W')) := by
  refine callsIn_of_wp Tryd.func72 rfl hf ?_ hro
  simp only [Tryd.ntmps72, List.size_toArray, List.length_cons, List.length_nil, Nat.reduceAdd, Nat.reduceSub, Array.replicate_succ, Array.replicate_zero, List.push_toArray, List.append_toArray, List.nil_append, List.cons_append]
  have HM := Lib.hid hm
  clear hm
  gi_wp2
  gi_loopw [3] (fun i wr => ∃ q : Nat, q ≤ m ∧ ((q = 0 ∧ i = .int .i64 (-1)) ∨ ∃ j : Nat, q = j + 1 ∧ i = .int .i64 (j : Int)) ∧ J (fl L (m - q)) wr ∧ Below n₀ W wr)
    (fun i _ => (intOf i + 1).toNat)
  case atStart =>
    refine ⟨m, Nat.le_refl _, ?_, by rw [Nat.sub_self]; exact h0, Below.refl _ _⟩
    cases m with
    | zero => exact .inl ⟨rfl, rfl⟩
    | succ j => exact .inr ⟨j, rfl, by go_num⟩
  case round =>
    obtain ⟨q, hq, hqi, hJs, hnx⟩ := hrel
    have hBs' : wr.cell? ⟨Bs, 2, none⟩ = some (.slice A m c) := (hnx.cell (p := ⟨Bs, 2, none⟩) hb).trans hBs
    rcases hqi with ⟨rfl, rfl⟩ | ⟨j, rfl, rfl⟩
    · gi_wp2
      go_end0
      exact ⟨⟨_, rfl⟩, .inl ⟨_, rfl, hJs⟩⟩
    · obtain ⟨x, hx⟩ : ∃ x, L[j]? = some x := ⟨_, List.getElem?_eq_getElem (by rw [← HM.out]; omega)⟩
      obtain ⟨b, o, rfl, hb2, hr⟩ := (hc.below hnx) j x hx
      have hc0 : wr.cell? ⟨b, o + j * 2, none⟩ = some (.int .u32 x.n) := hr 0 _ rfl
      have hc1 : wr.cell? ⟨b, o + j * 2 + 1, none⟩ = some (.string x.d) := hr 1 _ rfl
      have HS := Lib.hid (fl_step hx)
      rw [← HM.out] at HS
      have HX := Lib.hid hx
      clear hr hx
      have q1 : (j : Int) < (m : Int) := by omega
      have q2 : (0 : Int) ≤ (j : Int) := by omega
      obtain ⟨fn, tmps, assign, body, hy, hR⟩ := hY _ (j, x) wr hJs (by rw [fl_len]; omega)
      change (Instr.yield l #[.int .i64 (j : Int), .agg #[.int .u32 x.n, .string x.d]]).run _ _ = _ at hy
      gi_wp2
      refine hR.mono ?_
      rintro e W3 (⟨rfl, hJ3, hk3⟩ | ⟨rfl, hJx3⟩)
      · gi_wp2
        go_roundw
        case rel =>
          refine ⟨j, by omega, ?_, by rw [HS.out]; exact hJ3, hnx.trans hk3⟩
          cases j with
          | zero => exact .inl ⟨rfl, rfl⟩
          | succ j => exact .inr ⟨j, rfl, by go_num⟩
        case measure => simp [intOf]
      · gi_wp2
        refine bodyPost_ret (results_none rfl _ _ _) rfl ?_
        exact ⟨⟨_, rfl⟩, .inr ⟨_, ⟨m - j, by omega, HS.out.symm⟩, hJx3⟩⟩
/-- the contract of the iterator -/
theorem last_stops (F : Fence) (n : Nat) (hf : F.fn 72) (hro : F.round = none) (hn : 1 ≤ n) (Bs n₀ : Nat) (A : Option Addr) (m c : Nat) (L : List Bk) (hm : m = L.length) (hlen : m ≤ 1099511627776) (w : World)
    (hb : Bs < n₀) (hn₀ : n₀ ≤ w.heap.size) (hBs : w.cell? ⟨Bs, 2, none⟩ = some (.slice A m c)) (hc : Ls enc 2 w n₀ A L) :
    SeqStopsK F n Tryd.prog 72 #[.pointer (some ⟨Bs, 0, none⟩)] encP (Below n₀) (fun ys => ys = fl L m) (fun pre => ∃ k, k ≤ m ∧ pre = fl L k) m w := fun l J Jx W hW _ _ hY h0 =>
  last_in F n hf hro hn l Bs n₀ A m c L hm hlen J Jx hY W hb ((hW.cell (p := ⟨Bs, 2, none⟩) (Nat.lt_of_lt_of_le hb hn₀)).trans hBs) (hc.below (hW.mono hn₀)) h0
end Go.Proofs.YtjkapmghifglcaaDoor.Dv
