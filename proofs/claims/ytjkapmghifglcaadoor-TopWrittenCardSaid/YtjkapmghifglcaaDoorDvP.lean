/- The contract of the iterator fromLast$1 where the caller's body writes boxes of its own between the rounds (any Kp that keeps the device's copy and the list). -/
import Derived.Test.YtjkapmghifglcaaDoorDvO
namespace Go.Proofs.YtjkapmghifglcaaDoor.Dv
set_option linter.unusedVariables false
open Go.RowKit Go.Shelf
open Ar Rg St
attribute [local go_sem] Oper.semAt_some
/-- the device's copy and the list lie as they lay -/
def Hd (Bs n₀ : Nat) (A : Option Addr) (m c : Nat) (L : List Bk) (W : World) : Prop := W.cell? ⟨Bs, 2, none⟩ = some (.slice A m c) ∧ Ls enc 2 W n₀ A L
/-- blocks below n₀ and the block Bs lie as they lay -/
structure KpB (n₀ Bs : Nat) (W W' : World) : Prop where
  low : Below n₀ W W'
  at_ : W'.heap[Bs]? = W.heap[Bs]?
theorem KpB.trans {n₀ Bs : Nat} {X Y Z : World} (h : KpB n₀ Bs X Y) (k : KpB n₀ Bs Y Z) : KpB n₀ Bs X Z := ⟨h.low.trans k.low, k.at_.trans h.at_⟩
theorem KpB.hd {n₀ Bs : Nat} {A : Option Addr} {m c : Nat} {L : List Bk} {X Y : World} (h : KpB n₀ Bs X Y) (k : Hd Bs n₀ A m c L X) : Hd Bs n₀ A m c L Y := ⟨(World.cell?_of_block (a := ⟨Bs, 2, none⟩) h.at_).trans k.1, k.2.below h.low⟩
theorem KpB.refl (n₀ Bs : Nat) (W : World) : KpB n₀ Bs W W := ⟨Below.refl _ _, rfl⟩
theorem KpB.of_below {n₀ Bs B : Nat} {X Y : World} (h : Below B X Y) (h1 : n₀ ≤ B) (h2 : Bs < B) : KpB n₀ Bs X Y := ⟨h.mono h1, h.block Bs h2⟩
theorem KpB.setCell {n₀ Bs : Nat} {X : World} {p : Addr} (h1 : n₀ ≤ p.block) (h2 : Bs ≠ p.block) (u : Value) : KpB n₀ Bs X (X.setCell p u) := ⟨(Below.refl _ _).setCell h1 u, heap_setCell_other X p Bs u h2⟩
theorem KpB.putObj {n₀ Bs : Nat} {W1 : World} (h1 : n₀ ≤ W1.heap.size) (h2 : Bs < W1.heap.size) (W : World) (l : Nat) (o o' : Obj) (hl : W1.heap.size ≤ l) (h : W.heap[l]? = some o) (hc : o.isCells = false) (hw : o.isWalk = false) : KpB n₀ Bs W (W.putObj l o') :=
  ⟨belowK_b h1 W l o o' hl h hc hw, World.putObj_heap_other (by omega)⟩
set_option maxRecDepth 100000 in
set_option maxHeartbeats 2000000 in
theorem last_inK (F : Fence) (n : Nat) (hf : F.fn 72) (hro : F.round = none) (hn : 1 ≤ n) (l Bs n₀ : Nat) (A : Option Addr) (m c : Nat) (L : List Bk) (hm : m = L.length) (hlen : m ≤ 1099511627776) (J Jx : List (Nat × Bk) → World → Prop)
    (hY : ∀ pre x W, J pre W → pre.length < m → YieldAt F (n - 1) Tryd.prog l (encP x) W fun e W' =>
      (e = .returned (.bool true) ∧ J (pre ++ [x]) W' ∧ KpB n₀ Bs W W') ∨ (e = .returned (.bool false) ∧ Jx (pre ++ [x]) W'))
    (W : World) (hH : Hd Bs n₀ A m c L W) (h0 : J [] W) :
    CallsIn F n Tryd.prog 72 #[.func (.yield l) #[] #[], .pointer (some ⟨Bs, 0, none⟩)] W fun e W' => (∃ v, e = .returned v) ∧
      ((∃ ys, ys = fl L m ∧ J ys W') ∨ (∃ pre, (∃ k, k ≤ m ∧ pre = fl L k) ∧ Jx pre W')) := by
  refine callsIn_of_wp Tryd.func72 rfl hf ?_ hro
  simp only [Tryd.ntmps72, List.size_toArray, List.length_cons, List.length_nil, Nat.reduceAdd, Nat.reduceSub, Array.replicate_succ, Array.replicate_zero, List.push_toArray, List.append_toArray, List.nil_append, List.cons_append]
  have HM := Lib.hid hm
  have HH := Lib.hid hH
  have hBs := hH.1
  clear hm hH
  gi_wp2
  gi_loopw [3] (fun i wr => ∃ q : Nat, q ≤ m ∧ ((q = 0 ∧ i = .int .i64 (-1)) ∨ ∃ j : Nat, q = j + 1 ∧ i = .int .i64 (j : Int)) ∧ J (fl L (m - q)) wr ∧ Hid (Hd Bs n₀ A m c L wr))
    (fun i _ => (intOf i + 1).toNat)
  case atStart =>
    refine ⟨m, Nat.le_refl _, ?_, by rw [Nat.sub_self]; exact h0, HH.out⟩
    cases m with
    | zero => exact .inl ⟨rfl, rfl⟩
    | succ j => exact .inr ⟨j, rfl, by go_num⟩
  case round =>
    obtain ⟨q, hq, hqi, hJs, hnx⟩ := hrel
    have hBs' : wr.cell? ⟨Bs, 2, none⟩ = some (.slice A m c) := (Hid.out hnx).1
    rcases hqi with ⟨rfl, rfl⟩ | ⟨j, rfl, rfl⟩
    · gi_wp2
      go_end0
      exact ⟨⟨_, rfl⟩, .inl ⟨_, rfl, hJs⟩⟩
    · obtain ⟨x, hx⟩ : ∃ x, L[j]? = some x := ⟨_, List.getElem?_eq_getElem (by rw [← HM.out]; omega)⟩
      obtain ⟨b, o, rfl, hb2, hr⟩ := (Hid.out hnx).2 j x hx
      have hc0 : wr.cell? ⟨b, o + j * 2, none⟩ = some (.int .u32 x.n) := hr 0 _ rfl
      have hc1 : wr.cell? ⟨b, o + j * 2 + 1, none⟩ = some (.string x.d) := hr 1 _ rfl
      have HS := Lib.hid (fl_step hx)
      rw [← HM.out] at HS
      have HX := Lib.hid hx
      clear hr hx
      have q1 : (j : Int) < (m : Int) := by omega
      have q2 : (0 : Int) ≤ (j : Int) := by omega
      obtain ⟨fn, tmps, assign, body, hy, hR⟩ := hY _ (j, x) wr hJs (by rw [fl_len]; omega)
      change (Instr.yield l #[.int .i64 (j : Int), .agg #[.int .u32 x.n, .string x.d]]).run _ _ = _ at hy
      gi_wp2
      refine hR.mono ?_
      rintro e W3 (⟨rfl, hJ3, hk3⟩ | ⟨rfl, hJx3⟩)
      · gi_wp2
        go_roundw
        case rel =>
          refine ⟨j, by omega, ?_, by rw [HS.out]; exact hJ3, hk3.hd (Hid.out hnx)⟩
          cases j with
          | zero => exact .inl ⟨rfl, rfl⟩
          | succ j => exact .inr ⟨j, rfl, by go_num⟩
        case measure => simp [intOf]
      · gi_wp2
        refine bodyPost_ret (results_none rfl _ _ _) rfl ?_
        exact ⟨⟨_, rfl⟩, .inr ⟨_, ⟨m - j, by omega, HS.out.symm⟩, hJx3⟩⟩
/-- the contract of the iterator -/
theorem last_stopsK (F : Fence) (n : Nat) (hf : F.fn 72) (hro : F.round = none) (hn : 1 ≤ n) (Bs n₀ : Nat) (A : Option Addr) (m c : Nat) (L : List Bk) (hm : m = L.length) (hlen : m ≤ 1099511627776) (w : World)
    (hb : Bs < w.heap.size) (hn₀ : n₀ ≤ w.heap.size) (hH : Hd Bs n₀ A m c L w) :
    SeqStopsK F n Tryd.prog 72 #[.pointer (some ⟨Bs, 0, none⟩)] encP (KpB n₀ Bs) (fun ys => ys = fl L m) (fun pre => ∃ k, k ≤ m ∧ pre = fl L k) m w := fun l J Jx W hW _ _ hY h0 =>
  last_inK F n hf hro hn l Bs n₀ A m c L hm hlen J Jx hY W ((KpB.of_below hW hn₀ hb).hd hH) h0
end Go.Proofs.YtjkapmghifglcaaDoor.Dv
