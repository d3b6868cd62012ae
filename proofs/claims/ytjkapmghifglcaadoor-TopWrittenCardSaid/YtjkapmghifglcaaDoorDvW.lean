/- Contracts of package dev's write, WriteAll, Write. -/
import Derived.Test.YtjkapmghifglcaaDoorDvV
import Derived.StillTailTactics
import Derived.Maps.AppendAt
import Derived.Test.YtjkapmghifglcaaDoorRgT
namespace Go.Proofs.YtjkapmghifglcaaDoor.Dv
set_option linter.unusedVariables false
open Go.ChangeShapes Go.WideShapes Go.ChangeAt Go.RowKit
open Ar Rg St
open BigFrame
theorem op_catB {o : Oper} {a : Act} {K : Act → World → Prop} {Q : Exit → Act → World → Prop} {w wr : World} {v : Value} {D : List Bk} (hM : MkB w wr v D) (E : List Bk) (A : Option Addr) (m c : Nat) {B : Nat} (hm : m = E.length) (hL : Ls enc 2 wr B A E) (hlen : D.length + m ≤ 4398046511104)
    (s x : Operand) (ho : o.op = .call { callee := .builtin .append, args := #[s, x], argTypes := #[23, 23] }) (hs : a.eval s = v) (hx : a.eval x = .slice A m c)
    (h : ∀ v' w', MkB w w' v' (D ++ E) → wr.grownBy w' v.ownBlock → K (a.put o.dst v') w') : Oper.wp Tryd.prog o a wr K Q := by
  obtain ⟨i0, hi, hz0, hz1, hz2⟩ := info_parts infoB
  obtain ⟨v', w', hr, h2, h3⟩ := run_cat (P := Tryd.prog) 23 o.type i0 _ 24 Tryd.underlying23 hi hz0 hz1 hz2 rfl (by decide) Sb.enc_len Sb.enc_one hM m c hm hL (by unfold maxLen; omega) (by omega)
  unfold Oper.wp execOp
  simp only [ho, resolve, invoke, builtin, Sem.run_bind, Sem.run_pure, Result.andThen_ok, List.map_toArray, List.map_cons, List.map_nil, hs, hx, hr]
  exact h v' w' h2 h3
theorem Own.grown {B : Nat} {X Y : World} {v : Value} {D : List Bk} {row : Option Nat} (h : Own B X v D) (hg : X.grownBy Y row) (hne : ∀ k, v.ownBlock = some k → row ≠ some k) : Own B Y v D := by
  refine World.ownsRow.kept h hg ?_
  cases hv : v.ownBlock with
  | none => exact .inl rfl
  | some k =>
    right
    intro e
    exact hne k hv e.symm
theorem Box.of_block {w w' : World} {b N : Nat} {v1 v2 : Value} {dn : Bool} {fu : Int} (h : Box w b N v1 v2 dn fu) (e : w'.heap[b]? = w.heap[b]?) : Box w' b N v1 v2 dn fu :=
  ⟨(World.cell?_of_block (a := ⟨b, 0, none⟩) e).trans h.c0, (World.cell?_of_block (a := ⟨b, 1, none⟩) e).trans h.c1, (World.cell?_of_block (a := ⟨b, 2, none⟩) e).trans h.c2, (World.cell?_of_block (a := ⟨b, 3, none⟩) e).trans h.c3, (World.cell?_of_block (a := ⟨b, 4, none⟩) e).trans h.c4, fun o => (World.frozen?_of_block (a := ⟨b, o, none⟩) e).trans (h.fr o)⟩
theorem Box.grown {w w' : World} {b N : Nat} {v1 v2 : Value} {dn : Bool} {fu : Int} {row : Option Nat} (h : Box w b N v1 v2 dn fu) (hg : w.grownBy w' row) (hne : row ≠ some b) : Box w' b N v1 v2 dn fu :=
  h.of_block (hg.block b (World.block_lt_of_cell? w _ h.c0) (fun e => hne e.symm))
set_option linter.unusedSimpArgs false
theorem Own.off {B g : Nat} {w : World} {v : Value} {D : List Bk} {cs : Array Value} {t : TypeId} {f : Nat × Nat} (h : Own B w v D) (hg : w.heap[g]? = some (.cells cs t f)) (ht : t ≠ 41) : ∀ k, v.ownBlock = some k → k ≠ g := by
  intro k hk e
  subst e
  rcases h.2 with ⟨rfl, h0⟩ | ⟨q, cap, cur, rfl, hb, hq, hn, hc, hcs, hl⟩
  · cases hk
  · cases hk
    rw [hq] at hg
    cases hg
    exact ht rfl
theorem Own.burnAt {B b : Nat} {w : World} {v : Value} {D : List Bk} (h : Own B w v D) (hne : ∀ k, v.ownBlock = some k → k ≠ b) (fu : Int) : Own B (burnW w b fu) v D := by
  unfold burnW
  split
  · exact h.grown (grown_setCell w ⟨b, 3, none⟩ _) (fun k hk e => by cases e; exact hne _ hk rfl)
  · split
    · exact h.grown (grown_setCell w ⟨b, 4, none⟩ _) (fun k hk e => by cases e; exact hne _ hk rfl)
    · exact h
/-- one block behind the others; where the new row lies -/
theorem op_cat1 {o : Oper} {a : Act} {K : Act → World → Prop} {Q : Exit → Act → World → Prop} {w wr : World} {v : Value} {D : List Bk} (hM : MkB w wr v D) (y : Bk) (g c : Nat) (hrow : wr.heap[g]? = some (.cells #[.int .u32 y.n, .string y.d] 41 (0, 0))) (hlen : D.length + 1 ≤ 4398046511104)
    (s x : Operand) (ho : o.op = .call { callee := .builtin .append, args := #[s, x], argTypes := #[23, 23] }) (hs : a.eval s = v) (hx : a.eval x = .slice (some ⟨g, 0, none⟩) 1 c)
    (h : ∀ v' w', MkB w w' v' (D ++ [y]) → wr.grownBy w' v.ownBlock → (v'.ownBlock = v.ownBlock ∨ v'.ownBlock = some wr.heap.size) → K (a.put o.dst v') w') : Oper.wp Tryd.prog o a wr K Q := by
  obtain ⟨i0, hi, hz0, hz1, hz2⟩ := info_parts infoB
  have hc0 : wr.cell? ⟨g, 0, none⟩ = some (.int .u32 y.n) := cell_of_row _ _ 0 _ _ _ hrow
  have hc1 : wr.cell? ⟨g, 1, none⟩ = some (.string y.d) := cell_of_row _ _ 1 _ _ _ hrow
  obtain ⟨v', w', hr, h2, h3, _, h5⟩ := run_append_own_at (P := Tryd.prog) wr w.heap.size 23 o.type 41 i0 _ 2 24 Tryd.underlying23 hi hz0 hz1 hz2 rfl (by decide) v D.length (D.flatMap enc) hM.1 ⟨g, 0, none⟩ 1 c (enc y) rfl
    (fun j u hu => by
      match j, hu with
      | 0, hu => cases hu; exact hc0
      | 1, hu => cases hu; exact hc1) (Sb.enc_one y) (by unfold maxLen; omega) (by omega) hM.2.size
  have hM' : MkB w w' v' (D ++ [y]) := by
    refine ⟨?_, hM.2.grown h3 hM.2.size (fun k hk => (hM.1.lt k hk).1)⟩
    have e : (D ++ [y]).flatMap enc = D.flatMap enc ++ enc y := by simp
    rw [List.length_append, e]
    exact h2
  unfold Oper.wp execOp
  simp only [ho, resolve, invoke, builtin, Sem.run_bind, Sem.run_pure, Result.andThen_ok, List.map_toArray, List.map_cons, List.map_nil, hs, hx, hr]
  exact h v' w' hM' h3 h5
/-- a write, of a device that is right -/
def wrS (x : De) (b : Bk) : Int := if x.why b.n b.d ≠ 0 then x.why b.n b.d else burnE x.fu
def wrU (x : De) (b : Bk) : De := if x.why b.n b.d ≠ 0 then x else ⟨x.N, x.D, x.W ++ [⟨b.n, cutB b.d⟩], burnD x.dn x.fu, burnF x.fu⟩
/-- a device at work, in block q; its lists are the call's own -/
structure WV (wb w : World) (q : Nat) (A1 : Option Addr) (n1 c1 : Nat) (A2 : Option Addr) (n2 c2 : Nat) (x : De) : Prop where
  row : w.heap[q]? = some (.cells (devC x.N (.slice A1 n1 c1) (.slice A2 n2 c2) x.dn x.fu) 57 (0, 0))
  two : Two wb.heap.size w (.slice A1 n1 c1) x.D (.slice A2 n2 c2) x.W
  at_ : wb.heap.size ≤ q
  bel : Below wb.heap.size wb w
  ld : x.D.length ≤ 65536
  lw : x.W.length ≤ 16384
  lo : -9223372036854775808 ≤ x.fu
  hi : x.fu ≤ 9223372036854775807
theorem burnF_lo {fu : Int} (lo : -9223372036854775808 ≤ fu) (hi : fu ≤ 9223372036854775807) : -9223372036854775808 ≤ burnF fu ∧ burnF fu ≤ 9223372036854775807 := by
  unfold burnF; split <;> omega
theorem Two.q_ne {B q : Nat} {w : World} {v1 v2 : Value} {D W : List Bk} {cs : Array Value} (h : Two B w v1 D v2 W) (hq : w.heap[q]? = some (.cells cs 57 (0, 0))) : (∀ k, v1.ownBlock = some k → k ≠ q) ∧ ∀ k, v2.ownBlock = some k → k ≠ q :=
  ⟨h.one.off hq (by decide), h.two.off hq (by decide)⟩
theorem row_lt {w : World} {b : Nat} {o : Obj} (h : w.heap[b]? = some o) : b < w.heap.size := by
  rcases Nat.lt_or_ge b w.heap.size with hl | hg
  · exact hl
  · rw [Array.getElem?_eq_none hg] at h; cases h
theorem burn_row {w : World} {b N : Nat} {v1 v2 : Value} {dn : Bool} {fu : Int} {t : TypeId} (h : w.heap[b]? = some (.cells (devC N v1 v2 dn fu) t (0, 0))) : (burnW w b fu).heap[b]? = some (.cells (devC N v1 v2 (burnD dn fu) (burnF fu)) t (0, 0)) := by
  unfold burnW burnD burnF
  by_cases h0 : fu = 0
  · subst h0
    simp [World.setCell, h, Array.getElem?_modify]
  · by_cases h1 : 0 < fu
    · rw [if_neg h0, if_pos h1, if_neg h0, if_pos h1]
      simp [World.setCell, h, Array.getElem?_modify]
    · rw [if_neg h0, if_neg h1, if_neg h0, if_neg h1]
      exact h
theorem set2_row {w : World} {b N : Nat} {v1 v2 u : Value} {dn : Bool} {fu : Int} {t : TypeId} (h : w.heap[b]? = some (.cells (devC N v1 v2 dn fu) t (0, 0))) : (w.setCell ⟨b, 2, none⟩ u).heap[b]? = some (.cells (devC N v1 u dn fu) t (0, 0)) := by
  simp [World.setCell, h, Array.getElem?_modify]
set_option maxRecDepth 100000 in
set_option maxHeartbeats 4000000 in
theorem write_at {wb w : World} {q n1 c1 n2 c2 : Nat} {A1 A2 : Option Addr} {x : De} (h : WV wb w q A1 n1 c1 A2 n2 c2 x) (b : Bk) (hs : b.d.size ≤ 9223372036854775807) :
    Calls Tryd.prog 50 #[.pointer (some ⟨q, 0, none⟩), .agg #[.int .u32 b.n, .string b.d]] w fun e w' => e = .returned (.int .i64 (wrS x b)) ∧ ∃ A2' n2' c2', WV wb w' q A1 n1 c1 A2' n2' c2' (wrU x b) := by
  obtain ⟨num, s⟩ := b
  obtain ⟨N, D, W, dn, fu⟩ := x
  obtain ⟨hrow, htwo, hq, hbel, hld, hlw, lo, hi⟩ := h
  dsimp only at hrow htwo hld hlw lo hi hs ⊢
  have hn2 : n2 = W.length := by obtain ⟨A, n, c, e, hs⟩ := htwo.two.sl; cases e; exact hs.1
  have hqz := row_lt hrow
  have HLT := Lib.hid (show ∀ k, (Value.slice A2 n2 c2).ownBlock = some k → k < w.heap.size from fun k hk => (htwo.two.lt k hk).2)
  have hal : Below w.heap.size w (w.alloc (.cells #[.int .u32 num, .string s] 41)) := (Below.refl _ _).alloc (Nat.le_refl _) _
  have HROW := Lib.hid (below_row hrow hal hqz)
  have HTWO := Lib.hid (htwo.go hal)
  have HBX := Lib.hid (heap_alloc_new w (.cells #[.int .u32 num, .string s] 41))
  have HB0 := Lib.hid (hbel.trans (hal.mono (Nat.le_trans hq (Nat.le_of_lt hqz))))
  have HZ0 := Lib.hid (show w.heap.size + 1 = (w.alloc (.cells #[.int .u32 num, .string s] 41)).heap.size by simp)
  have HN2 := Lib.hid hn2
  clear hrow htwo hal hn2 hbel
  by_cases hy : De.why ⟨N, D, W, dn, fu⟩ num s = 0
  · have HY := Lib.hid (show wrE N num s n2 dn = 0 by rw [HN2.out]; exact hy)
    have HE := Lib.hid (show wrS ⟨N, D, W, dn, fu⟩ ⟨num, s⟩ = burnE fu by unfold wrS; rw [if_neg (by simpa using hy)])
    have HX := Lib.hid (show wrU ⟨N, D, W, dn, fu⟩ ⟨num, s⟩ = ⟨N, D, W ++ [⟨num, cutB s⟩], burnD dn fu, burnF fu⟩ by unfold wrU; rw [if_neg (by simpa using hy)])
    have HWN := Lib.hid (show W.length < 16384 by have := (why_zero.1 hy).2.2.2; dsimp only at this; omega)
    rw [HE.out, HX.out]
    clear HE HX hy
    go_enter Tryd.func50, Tryd.ntmps50
    go_wp2_with fail
    generalize w.alloc _ = w0 at *
    have BX := Lib.hid (row_dev HROW.out)
    have a0 := BX.out.c0
    have a1 := BX.out.c1
    have a2 := BX.out.c2
    have a3 := BX.out.c3
    have a4 := BX.out.c4
    have d0 : w0.cell? ⟨w.heap.size, 0, none⟩ = some (.int .u32 num) := cell_of_row _ _ 0 _ _ _ HBX.out
    have d1 : w0.cell? ⟨w.heap.size, 1, none⟩ = some (.string s) := cell_of_row _ _ 1 _ _ _ HBX.out
    go_still_tail 7, (by kernel_rfl)
    go_wp2_with fail
    go_at_call 67
    refine (wr_any N num A1 A2 n1 c1 n2 c2 dn fu s _).mono ?_
    rw [HY.out]
    rintro e w4 ⟨rfl, hb4⟩
    have hb4 : Below w0.heap.size w0 w4 := ((Below.refl _ _).drew).trans hb4
    have HROW4 := Lib.hid (below_row HROW.out hb4 (row_lt HROW.out))
    have HBX4 := Lib.hid (below_row HBX.out hb4 (row_lt HBX.out))
    have HTWO4 := Lib.hid (HTWO.out.go hb4)
    have HB4 := Lib.hid (HB0.out.trans (hb4.mono (by have := HZ0.out; omega)))
    clear a0 a1 a2 a3 a4 d0 d1 hb4
    have HC := Lib.hid (cut_any s hs)
    have HLW := Lib.hid hlw
    go_wp2_with fail
    refine wp_region_T (fun w' : World => w'.cell? ⟨q, 2, none⟩ = some (.slice A2 n2 c2) ∧ w'.cell? ⟨w.heap.size, 0, none⟩ = some (.int .u32 num) ∧ w'.cell? ⟨w.heap.size, 1, none⟩ = some (.string s)) 14 (by kernel_rfl) (by kernel_rfl) ?_
    generalize hw5 : w4.drew = w5
    have HROW5 := Lib.hid (show w5.heap[q]? = some (.cells (devC N (.slice A1 n1 c1) (.slice A2 n2 c2) dn fu) 57 (0, 0)) by rw [← hw5]; exact HROW4.out)
    have HBX5 := Lib.hid (show w5.heap[w.heap.size]? = some (.cells #[.int .u32 num, .string s] 41 (0, 0)) by rw [← hw5]; exact HBX4.out)
    have HTWO5 := Lib.hid (show Two wb.heap.size w5 (.slice A1 n1 c1) D (.slice A2 n2 c2) W by rw [← hw5]; exact HTWO4.out.go (Below.refl _ _).drew)
    have HB5 := Lib.hid (show Below wb.heap.size wb w5 by rw [← hw5]; exact HB4.out.drew)
    clear hw5 HTWO HROW HBX HROW4 HTWO4 HBX4 HB4 HB0 HY BX
    have hkeep : ∀ wx : World, wx.heap[q]? = some (.cells (devC N (.slice A1 n1 c1) (.slice A2 n2 c2) dn fu) 57 (0, 0)) → wx.heap[w.heap.size]? = some (.cells #[.int .u32 num, .string s] 41 (0, 0)) → wx.cell? ⟨q, 2, none⟩ = some (.slice A2 n2 c2) ∧ wx.cell? ⟨w.heap.size, 0, none⟩ = some (.int .u32 num) ∧ wx.cell? ⟨w.heap.size, 1, none⟩ = some (.string s) := fun wx h1 h2 => ⟨(row_dev h1).c2, cell_of_row _ _ 0 _ _ _ h2, cell_of_row _ _ 1 _ _ _ h2⟩
    have HKEEP := Lib.hid hkeep
    have hS := HKEEP.out w5 HROW5.out HBX5.out
    clear hkeep
    refine take_T 0 17 (.pointer (some ⟨q, 0, none⟩)) rfl (by rfl) (by kernel_rfl) (by decide) (by kernel_rfl) (by kernel_rfl) (by kernel_rfl) (fun _ _ _ h => h) (Or.inl ⟨by rfl, fun w' hSw => by obtain ⟨s0, s1, s2⟩ := hSw; go_simp⟩) hS ?_
    simp only [List.setIfInBounds_toArray, List.set_cons_zero, List.set_cons_succ]
    refine take_T 1 18 (.pointer (some ⟨q, 0, none⟩)) rfl (by rfl) (by kernel_rfl) (by decide) (by kernel_rfl) (by kernel_rfl) (by kernel_rfl) (fun _ _ _ h => h) (Or.inl ⟨by rfl, fun w' hSw => by obtain ⟨s0, s1, s2⟩ := hSw; go_simp⟩) hS ?_
    simp only [List.setIfInBounds_toArray, List.set_cons_zero, List.set_cons_succ]
    refine take_T 2 19 (.pointer (some ⟨q, 0, none⟩)) rfl (by rfl) (by kernel_rfl) (by decide) (by kernel_rfl) (by kernel_rfl) (by kernel_rfl) (fun _ _ _ h => h) (Or.inl ⟨by rfl, fun w' hSw => by obtain ⟨s0, s1, s2⟩ := hSw; go_simp⟩) hS ?_
    simp only [List.setIfInBounds_toArray, List.set_cons_zero, List.set_cons_succ]
    refine take_T 3 20 (.pointer (some ⟨q, 0, none⟩)) rfl (by rfl) (by kernel_rfl) (by decide) (by kernel_rfl) (by kernel_rfl) (by kernel_rfl) (fun _ _ _ h => h) (Or.inl ⟨by rfl, fun w' hSw => by obtain ⟨s0, s1, s2⟩ := hSw; go_simp⟩) hS ?_
    simp only [List.setIfInBounds_toArray, List.set_cons_zero, List.set_cons_succ]
    refine take_T 4 21 (.pointer (some ⟨q, 2, none⟩)) rfl (by rfl) (by kernel_rfl) (by decide) (by kernel_rfl) (by kernel_rfl) (by kernel_rfl) (fun _ _ _ h => h) (Or.inl ⟨by rfl, fun w' hSw => by obtain ⟨s0, s1, s2⟩ := hSw; go_simp⟩) hS ?_
    simp only [List.setIfInBounds_toArray, List.set_cons_zero, List.set_cons_succ]
    refine take_T 5 22 (.slice A2 n2 c2) rfl (by rfl) (by kernel_rfl) (by decide) (by kernel_rfl) (by kernel_rfl) (by kernel_rfl) (fun _ _ _ h => h) (Or.inl ⟨by rfl, fun w' hSw => by obtain ⟨s0, s1, s2⟩ := hSw; go_simp⟩) hS ?_
    simp only [List.setIfInBounds_toArray, List.set_cons_zero, List.set_cons_succ]
    refine take_T 6 23 (.pointer (some ⟨w.heap.size, 0, none⟩)) rfl (by rfl) (by kernel_rfl) (by decide) (by kernel_rfl) (by kernel_rfl) (by kernel_rfl) (fun _ _ _ h => h) (Or.inl ⟨by rfl, fun w' hSw => by obtain ⟨s0, s1, s2⟩ := hSw; go_simp⟩) hS ?_
    simp only [List.setIfInBounds_toArray, List.set_cons_zero, List.set_cons_succ]
    refine take_T 7 24 (.int .u32 num) rfl (by rfl) (by kernel_rfl) (by decide) (by kernel_rfl) (by kernel_rfl) (by kernel_rfl) (fun _ _ _ h => h) (Or.inl ⟨by rfl, fun w' hSw => by obtain ⟨s0, s1, s2⟩ := hSw; go_simp⟩) hS ?_
    simp only [List.setIfInBounds_toArray, List.set_cons_zero, List.set_cons_succ]
    refine take_T 8 25 (.pointer (some ⟨w.heap.size, 1, none⟩)) rfl (by rfl) (by kernel_rfl) (by decide) (by kernel_rfl) (by kernel_rfl) (by kernel_rfl) (fun _ _ _ h => h) (Or.inl ⟨by rfl, fun w' hSw => by obtain ⟨s0, s1, s2⟩ := hSw; go_simp⟩) hS ?_
    simp only [List.setIfInBounds_toArray, List.set_cons_zero, List.set_cons_succ]
    refine take_T 9 26 (.string s) rfl (by rfl) (by kernel_rfl) (by decide) (by kernel_rfl) (by kernel_rfl) (by kernel_rfl) (fun _ _ _ h => h) (Or.inl ⟨by rfl, fun w' hSw => by obtain ⟨s0, s1, s2⟩ := hSw; go_simp⟩) hS ?_
    simp only [List.setIfInBounds_toArray, List.set_cons_zero, List.set_cons_succ]
    refine only_T 10 rfl (by kernel_rfl) (by decide) (by rfl) (fun K hK => ?_)
    go_simp
    go_wp2_with (go_at_call 45; refine (HC.out _).mono ?_; rintro e w' ⟨rfl, rfl⟩)
    have hS2 := hS
    refine hK.out _ _ hS2 ?_
    clear hK K
    try simp only [Act.put, List.setIfInBounds_toArray, List.set_cons_zero, List.set_cons_succ]
    refine take_T 11 28 (.agg #[.int .u32 num, .string (cutB s)]) rfl (by rfl) (by kernel_rfl) (by decide) (by kernel_rfl) (by kernel_rfl) (by kernel_rfl) (fun _ _ _ h => h) (Or.inl ⟨by rfl, fun w' hSw => by obtain ⟨s0, s1, s2⟩ := hSw; go_simp⟩) hS ?_
    simp only [List.setIfInBounds_toArray, List.set_cons_zero, List.set_cons_succ]
    refine only_T 12 rfl (by kernel_rfl) (by decide) (by rfl) (fun K hK => ?_)
    go_simp
    have hal : Below w5.heap.size w5 (w5.alloc (.cells #[.int .u32 num, .string (cutB s)] 41)) := (Below.refl _ _).alloc (Nat.le_refl _) _
    have HROW6 := Lib.hid (below_row HROW5.out hal (row_lt HROW5.out))
    have HBX6 := Lib.hid (below_row HBX5.out hal (row_lt HBX5.out))
    have HTWO6 := Lib.hid (HTWO5.out.go hal)
    have HB6 := Lib.hid (HB5.out.trans (hal.mono HB5.out.size))
    have HNB := Lib.hid (heap_alloc_new w5 (.cells #[.int .u32 num, .string (cutB s)] 41))
    have HMK := Lib.hid (show MkB wb (w5.alloc (.cells #[.int .u32 num, .string (cutB s)] 41)) (.slice A2 n2 c2) W from ⟨HTWO6.out.two, HB6.out⟩)
    have hS2 := HKEEP.out _ HROW6.out HBX6.out
    clear hal
    refine hK.out _ _ hS2 ?_
    clear hK K
    try simp only [Act.put, List.setIfInBounds_toArray, List.set_cons_zero, List.set_cons_succ]
    clear hS
    have hS := hS2
    clear hS2
    refine only_T 13 rfl (by kernel_rfl) (by decide) (by rfl) (fun K hK => ?_)
    refine op_cat1 HMK.out ⟨num, cutB s⟩ w5.heap.size 1 HNB.out (by have := HLW.out; omega) _ _ rfl rfl rfl ?_
    intro v6 w6 hM6 hG6 hat
    obtain ⟨A6, n6, c6, rfl, hs6⟩ := SlB.of_mk hM6
    have hne := HTWO6.out.q_ne HROW6.out
    have HROW7 := Lib.hid ((hG6.block q (row_lt HROW6.out) (fun e => hne.2 q e.symm rfl)).trans HROW6.out)
    have HBX7 := Lib.hid ((hG6.block w.heap.size (row_lt HBX6.out) (fun e => Nat.lt_irrefl _ (HLT.out _ e.symm))).trans HBX6.out)
    have Q1 := Lib.hid (HTWO6.out.one.grown hG6 (fun k hk e => HTWO6.out.apart k hk e))
    have O6 := Lib.hid (Own.of_mk hM6)
    have K6 := Lib.hid hM6.2
    have HAP := Lib.hid (show ∀ k, (Value.slice A1 n1 c1).ownBlock = some k → (Value.slice A6 n6 c6).ownBlock ≠ some k from fun k hk e => by
      rcases hat with h | h
      · exact HTWO6.out.apart k hk (h.symm.trans e)
      · have h2 := Option.some.inj (h.symm.trans e)
        have h3 := (HTWO6.out.one.lt k hk).2
        omega)
    have hne1 := hne.1
    have HNE1 := Lib.hid hne1
    have hS2 := HKEEP.out _ HROW7.out HBX7.out
    clear hM6 hG6 hs6 hne hne1 hS HTWO6 HBX6 HROW6 HTWO5 HBX5 HROW5 HB5 HB6 HMK HNB hat
    refine hK.out _ _ hS2 ?_
    clear hK K
    try simp only [Act.put, List.setIfInBounds_toArray, List.set_cons_zero, List.set_cons_succ]
    refine done_T (by kernel_rfl) ?_
    have d2 := (row_dev HROW7.out).c2
    have g2 := (row_dev HROW7.out).fr 2
    clear hS2
    go_wp2_with fail
    have HROW8 := Lib.hid (set2_row (u := .slice A6 n6 c6) HROW7.out)
    have hne6 := Lib.hid (O6.out.off HROW7.out (by decide))
    have Q7 := Lib.hid (Q1.out.grown (grown_setCell w6 ⟨q, 2, none⟩ (.slice A6 n6 c6)) (fun k hk e => by cases e; exact HNE1.out _ hk rfl))
    have O7 := Lib.hid (O6.out.grown (grown_setCell w6 ⟨q, 2, none⟩ (.slice A6 n6 c6)) (fun k hk e => by cases e; exact hne6.out _ hk rfl))
    have K7 := Lib.hid (K6.out.setCell (p := ⟨q, 2, none⟩) hq (.slice A6 n6 c6))
    clear d2 g2 HROW7 Q1 O6 K6
    generalize w6.setCell _ _ = w7 at *
    have BX7 := Lib.hid (row_dev HROW8.out)
    go_at_call 35
    refine (burn_any BX7.out lo hi).mono ?_
    rintro e w8 ⟨rfl, hw8⟩
    have HROW9 := Lib.hid (hw8 ▸ burn_row (fu := fu) (dn := dn) HROW8.out)
    have Q8 := Lib.hid (hw8 ▸ Q7.out.burnAt (b := q) (fun k hk => HNE1.out k hk) fu)
    have O8 := Lib.hid (hw8 ▸ O7.out.burnAt (b := q) (fun k hk => hne6.out k hk) fu)
    have K8 := Lib.hid (hw8 ▸ below_burn K7.out hq fu)
    clear hw8
    go_wp2_with fail
    go_ret
    obtain ⟨f1, f2⟩ := burnF_lo lo hi
    exact ⟨rfl, A6, n6, c6, HROW9.out, ⟨Q8.out, O8.out, HAP.out⟩, hq, K8.out, hld, by have := HWN.out; simp only [List.length_append, List.length_singleton]; omega, f1, f2⟩
  · obtain ⟨y, hy2⟩ : ∃ y, De.why ⟨N, D, W, dn, fu⟩ num s = y := ⟨_, rfl⟩
    rw [hy2] at hy
    have HY := Lib.hid (show wrE N num s n2 dn = y by rw [HN2.out]; exact hy2)
    have HE := Lib.hid (show wrS ⟨N, D, W, dn, fu⟩ ⟨num, s⟩ = y by unfold wrS; rw [hy2, if_pos hy])
    have HX := Lib.hid (show wrU ⟨N, D, W, dn, fu⟩ ⟨num, s⟩ = ⟨N, D, W, dn, fu⟩ by unfold wrU; rw [hy2, if_pos hy])
    rw [HE.out, HX.out]
    clear HE HX hy2
    go_enter Tryd.func50, Tryd.ntmps50
    go_wp2_with fail
    generalize w.alloc _ = w0 at *
    have BX := Lib.hid (row_dev HROW.out)
    have a0 := BX.out.c0
    have a1 := BX.out.c1
    have a2 := BX.out.c2
    have a3 := BX.out.c3
    have a4 := BX.out.c4
    have d0 : w0.cell? ⟨w.heap.size, 0, none⟩ = some (.int .u32 num) := cell_of_row _ _ 0 _ _ _ HBX.out
    have d1 : w0.cell? ⟨w.heap.size, 1, none⟩ = some (.string s) := cell_of_row _ _ 1 _ _ _ HBX.out
    go_still_tail 7, (by kernel_rfl)
    go_wp2_with fail
    go_at_call 67
    refine (wr_any N num A1 A2 n1 c1 n2 c2 dn fu s _).mono ?_
    rw [HY.out]
    rintro e w4 ⟨rfl, hb4⟩
    have hb4 : Below w0.heap.size w0 w4 := ((Below.refl _ _).drew).trans hb4
    have HROW4 := Lib.hid (below_row HROW.out hb4 (row_lt HROW.out))
    have HBX4 := Lib.hid (below_row HBX.out hb4 (row_lt HBX.out))
    have HTWO4 := Lib.hid (HTWO.out.go hb4)
    have HB4 := Lib.hid (HB0.out.trans (hb4.mono (by have := HZ0.out; omega)))
    clear a0 a1 a2 a3 a4 d0 d1 hb4
    go_wp2_with fail
    go_ret
    exact ⟨rfl, _, _, _, HROW4.out, HTWO4.out, hq, HB4.out, hld, hlw, lo, hi⟩
theorem WV.below {wb w w' : World} {q n1 c1 n2 c2 : Nat} {A1 A2 : Option Addr} {x : De} (h : WV wb w q A1 n1 c1 A2 n2 c2 x) (hb : Below w.heap.size w w') : WV wb w' q A1 n1 c1 A2 n2 c2 x :=
  ⟨below_row h.row hb (row_lt h.row), h.two.go hb, h.at_, h.bel.trans (hb.mono h.bel.size), h.ld, h.lw, h.lo, h.hi⟩
/-- writes, one behind the other, till one is refused -/
def waR : De → List Bk → De × Int
  | x, [] => (x, 0)
  | x, b :: r => if wrS x b ≠ 0 then (wrU x b, wrS x b) else waR (wrU x b) r
def waX (x : De) (bs : List Bk) : De := if x.rt then (waR x bs).1 else De.zero
def waO (x : De) (bs : List Bk) : Int := if x.rt then (waR x bs).2 else 7
theorem waR_stop {x : De} {b : Bk} {r : List Bk} (h : ¬ wrS x b = 0) : waR x (b :: r) = (wrU x b, wrS x b) := by rw [waR, if_pos h]
theorem waR_go {x : De} {b : Bk} {r : List Bk} (h : wrS x b = 0) : waR x (b :: r) = waR (wrU x b) r := by rw [waR, if_neg (by simpa using h)]
theorem bs_at {D : List Bk} {k : Nat} {y : Bk} (h : D[k]? = some y) : D.drop k = y :: D.drop (k + 1) := by
  obtain ⟨hk, e⟩ := List.getElem?_eq_some_iff.1 h
  rw [List.drop_eq_getElem_cons hk, e]
/-- how far the writes have come -/
def WsAt (wb w wr : World) (q n1 c1 : Nat) (A1 : Option Addr) (p : De × Int) (bs : List Bk) (i : Nat) : Prop := ∃ A2 n2 c2 y, WV wb wr q A1 n1 c1 A2 n2 c2 y ∧ p = waR y (bs.drop i) ∧ Below w.heap.size w wr ∧ wr.heap[w.heap.size + 1]? = some (.cells zAt 25 (0, 0))
set_option maxRecDepth 100000 in
set_option maxHeartbeats 4000000 in
theorem writeAll_any (x : De) (bs : List Bk) (A0 : Option Addr) (n0 c0 : Nat) (v : Value) (w : World) (hs63 : ∀ b ∈ bs, b.d.size ≤ 9223372036854775807) (hbs : SlB w A0 n0 c0 bs) (hv : DevAt w v x) :
    Calls Tryd.prog 32 #[v, .slice A0 n0 c0] w fun e w' => ∃ v', e = .returned (.tuple #[v', .int .i64 (waO x bs)]) ∧ DevAt w' v' (waX x bs) ∧ Below w.heap.size w w' := by
  obtain ⟨hn0, hn0c, hn0m, B0, hB0, hL0⟩ := hbs
  unfold maxLen at hn0m
  have HN0 := Lib.hid hn0
  have HL0 := Lib.hid hL0
  have HS63 := Lib.hid hs63
  clear hn0 hL0 hs63
  obtain ⟨A, n, c, A', m, c', rfl, hD, hW, hn, hm, f1, f2⟩ := hv
  obtain ⟨N, D, W, dn, fu⟩ := x
  dsimp only at hD hW f1 f2 ⊢
  obtain ⟨R1, R2, S0, Z0⟩ := two_new w (devC N (.slice A n c) (.slice A' m c') dn fu) zAt 25 25
  have HR1 := Lib.hid R1
  have HR2 := Lib.hid R2
  have HZ := Lib.hid Z0
  have HD := Lib.hid (hD.below S0)
  have HW := Lib.hid (hW.below S0)
  have HS := Lib.hid S0
  have hD0 := hD.1
  have hW0 := hW.1
  clear hD hW S0 R1 R2 Z0
  unfold devV
  cases hr : De.rt ⟨N, D, W, dn, fu⟩
  · have HE := Lib.hid (show waO ⟨N, D, W, dn, fu⟩ bs = 7 by unfold waO; rw [hr]; rfl)
    have HX := Lib.hid (show waX ⟨N, D, W, dn, fu⟩ bs = De.zero by unfold waX; rw [hr]; rfl)
    have HR := Lib.hid (show rtD N D W = false from hr)
    rw [HE.out, HX.out]
    clear hr hD0 hW0 HE HX
    go_enter Tryd.func32, Tryd.ntmps32
    go_wp2_with fail
    generalize (w.alloc _).alloc _ = W0 at *
    go_at_call 33
    refine (right_any N D W A A' n c m c' dn fu hn hm W0 HD.out HW.out).mono ?_
    rw [HR.out]
    rintro e w1 ⟨rfl, hb1⟩
    have HB := Lib.hid (HS.out.trans (hb1.mono HS.out.size))
    have HQ2 := Lib.hid (below_row HR2.out hb1 (by rw [HZ.out]; omega))
    clear hb1
    go_wp2_with (refine wpList_store_row rfl 25 (.tmp 4) (.tmp 13) rfl (w.heap.size + 1) #[.int .u32 0, .slice none 0 0, .slice none 0 0, .bool false, .int .i64 0] rfl rfl 25 zAt HQ2.out (by kernel_rfl) rfl (dev_one _ _ _ _ _ _ _ _ _) ?_)
    have hg2 := setRow_heap' (cs := #[.int .u32 0, .slice none 0 0, .slice none 0 0, .bool false, .int .i64 0]) HQ2.out
    refine bodyPost_ret (v := .tuple #[.agg #[.int .u32 0, .slice none 0 0, .slice none 0 0, .bool false, .int .i64 0], .int .i64 7]) (results_row2 rfl _ _ (w.heap.size + 1) 25 #[.int .u32 0, .slice none 0 0, .slice none 0 0, .bool false, .int .i64 0] (0, 0) _ rfl hg2 Tryd.underlying25 rfl (by kernel_rfl) _ rfl) rfl ?_
    exact ⟨_, rfl, DevAt.zero _, below_setRow HB.out (by omega) _⟩
  · have HR := Lib.hid (show rtD N D W = true from hr)
    have hlen := rt_len hr
    dsimp only at hlen
    have hnl : n ≤ 65536 := by omega
    have hml : m ≤ 16384 := by omega
    have HDL := Lib.hid (show D.length ≤ 65536 from hlen.1)
    have HWL := Lib.hid (show W.length ≤ 16384 from hlen.2)
    have HUP := Lib.hid (show UpK key D from (rt_parts hr).2.2.1)
    have HMW := Lib.hid hW0
    clear hlen hD0
    have HE := Lib.hid (show waO ⟨N, D, W, dn, fu⟩ bs = (waR ⟨N, D, W, dn, fu⟩ bs).2 by unfold waO; rw [hr, if_pos rfl])
    have HX := Lib.hid (show waX ⟨N, D, W, dn, fu⟩ bs = (waR ⟨N, D, W, dn, fu⟩ bs).1 by unfold waX; rw [hr, if_pos rfl])
    obtain ⟨⟨YX, YO⟩, hY⟩ : ∃ p, waR ⟨N, D, W, dn, fu⟩ bs = p := ⟨_, rfl⟩
    rw [HE.out, HX.out, hY]
    have HY := Lib.hid hY
    clear hr HE HX hW0 hY
    go_enter Tryd.func32, Tryd.ntmps32
    go_wp2_with fail
    generalize (w.alloc _).alloc _ = W0 at *
    go_at_call 33
    refine (right_any N D W A A' n c m c' dn fu hn hm W0 HD.out HW.out).mono ?_
    rw [HR.out]
    rintro e w1 ⟨rfl, hb1⟩
    have HB := Lib.hid (HS.out.trans (hb1.mono HS.out.size))
    have HQ2 := Lib.hid (below_row HR2.out hb1 (by rw [HZ.out]; omega))
    have BX := Lib.hid (row_dev (below_row HR1.out hb1 (by rw [HZ.out]; omega)))
    have HD1 := Lib.hid (HD.out.below hb1)
    have HW1 := Lib.hid (HW.out.below hb1)
    have z1 : w.heap.size + 2 ≤ w1.heap.size := by have := hb1.size; rw [HZ.out] at this; exact this
    have a0 := BX.out.c0
    have a1 := BX.out.c1
    have a2 := BX.out.c2
    have a3 := BX.out.c3
    have a4 := BX.out.c4
    clear hb1 HD HW HR1 HR2
    go_wp2_with fail
    go_at_call 34
    refine (takenUp_any N D W A A' n c m c' dn fu (by omega) (by omega) w1 HD1.out HW1.out).mono ?_
    rintro e w2 ⟨v1, v2, rfl, hT, hb2⟩
    obtain ⟨A1, n1, c1, rfl, hs1⟩ := hT.one.sl
    obtain ⟨A2, n2, c2, rfl, hs2⟩ := hT.two.sl
    have HT := Lib.hid hT
    have HS1 := Lib.hid hs1
    have HS2 := Lib.hid hs2
    have hn1 : n1 ≤ 65536 := by have h1 := hs1.1; have h2 := HD1.out.1; omega
    have hn2 : n2 ≤ 16384 := by have h1 := hs2.1; have h2 := HW1.out.1; omega
    have z2 : w.heap.size + 2 ≤ w2.heap.size := Nat.le_trans z1 hb2.size
    have HB2 := Lib.hid (HB.out.trans (hb2.mono HB.out.size))
    have HQ3 := Lib.hid (below_row HQ2.out hb2 (by omega))
    have RN := Lib.hid (heap_alloc_new w2 (.cells zAt 57))
    have BX3 := Lib.hid (row_dev (setRow_heap' (cs := devC N (.slice A1 n1 c1) (.slice A2 n2 c2) dn fu) RN.out))
    have K3 := Lib.hid (below_setRow ((Below.refl w2.heap.size w2).alloc (Nat.le_refl _) (.cells zAt 57)) (Nat.le_refl w2.heap.size) (devC N (.slice A1 n1 c1) (.slice A2 n2 c2) dn fu))
    have z3 : w2.heap.size < ((w2.alloc (.cells zAt 57)).setRow w2.heap.size (devC N (.slice A1 n1 c1) (.slice A2 n2 c2) dn fu)).heap.size := World.block_lt_of_cell? _ ⟨w2.heap.size, 0, none⟩ BX3.out.c0
    have HB12 := Lib.hid hb2
    have HT12 := Lib.hid hb2.size
    have HRW := Lib.hid (setRow_heap' (cs := devC N (.slice A1 n1 c1) (.slice A2 n2 c2) dn fu) RN.out)
    have HQK := Lib.hid HQ2.out
    have HBK := Lib.hid HB.out
    clear hs1 hs2 hT hb2 a0 a1 a2 a3 a4 BX HB HQ2 HD1 HW1
    go_wp2_with (first | fail | (refine wpList_store_row rfl 57 (.tmp 6) (.tmp 15) rfl w2.heap.size #[.int .u32 N, .slice A1 n1 c1, .slice A2 n2 c2, .bool dn, .int .i64 fu] rfl rfl 57 zAt RN.out (by kernel_rfl) rfl (dev_one _ _ _ _ _ _ _ _ _) ?_; change wpList _ _ _ _ _ ((w2.alloc (.cells zAt 57)).setRow w2.heap.size (devC N (.slice A1 n1 c1) (.slice A2 n2 c2) dn fu)); generalize (w2.alloc (.cells zAt 57)).setRow w2.heap.size (devC N (.slice A1 n1 c1) (.slice A2 n2 c2) dn fu) = W3 at *; have b0 := BX3.out.c0; have b1 := BX3.out.c1; have b2 := BX3.out.c2; have b3 := BX3.out.c3; have b4 := BX3.out.c4; have HQ9 := Lib.hid (below_row HQ3.out K3.out (by omega))))
    have HWV := Lib.hid (show WV w1 W3 w2.heap.size A1 n1 c1 A2 n2 c2 ⟨N, D, W, dn, fu⟩ from ⟨HRW.out, HT.out.go K3.out, HT12.out, HB12.out.trans (K3.out.mono HT12.out), HDL.out, HWL.out, f1, f2⟩)
    have HAT := Lib.hid (show WsAt w1 w W3 w2.heap.size n1 c1 A1 (YX, YO) bs 0 from ⟨A2, n2, c2, _, HWV.out, HY.out.symm, HB2.out.trans (K3.out.mono HB2.out.size), HQ9.out⟩)
    have hz1 : w.heap.size + 2 ≤ w1.heap.size := z1
    clear b0 b1 b2 b3 b4 HQ3 K3 RN BX3 HRW HB12 HT HS1 HS2 HB2 HWV HQ9
    go_loopw [18] (fun v wr => ∃ i : Nat, i ≤ n0 ∧ v = .int .i64 i ∧ Hid (WsAt w1 w wr w2.heap.size n1 c1 A1 (YX, YO) bs i)) (fun v _ => n0 - (intOf v).toNat)
    case atStart => exact ⟨0, Nat.zero_le _, by go_num, HAT.out⟩
    case round =>
      obtain ⟨i, hi, rfl, hat⟩ := hrel
      obtain ⟨A3, n3, c3, y, hV, hw, hbel, hr9⟩ := Hid.out hat
      clear hat
      by_cases hlt : i < n0
      · obtain ⟨b, hb⟩ : ∃ b, bs[i]? = some b := ⟨_, List.getElem?_eq_getElem (by rw [← HN0.out]; exact hlt)⟩
        have hbs : b.d.size ≤ 9223372036854775807 := HS63.out b (List.mem_of_getElem? hb)
        have hL := HL0.out.below (hbel.mono hB0)
        obtain ⟨g, o, hAe, hg, hr⟩ := hL i b hb
        have hgs : g < wr.heap.size := Nat.lt_of_lt_of_le hg (Nat.le_trans hB0 hbel.size)
        have hc0 : wr.cell? ⟨g, o + i * 2, none⟩ = some (.int .u32 b.n) := hr 0 _ rfl
        have hc1 : wr.cell? ⟨g, o + i * 2 + 1, none⟩ = some (.string b.d) := hr 1 _ rfl
        subst hAe
        rw [bs_at hb] at hw
        have hal : Below wr.heap.size wr (wr.alloc (.cells #[.int .u32 b.n, .string b.d] 41)) := (Below.refl _ _).alloc (Nat.le_refl _) _
        have HV0 := Lib.hid (hV.below hal)
        have HR0 := Lib.hid (below_row hr9 hal (row_lt hr9))
        have HB0 := Lib.hid (hbel.trans (hal.mono hbel.size))
        have HNB := Lib.hid (heap_alloc_new wr (.cells #[.int .u32 b.n, .string b.d] 41))
        have HW := Lib.hid hw
        clear hL hr hb hV hr9 hbel hal hw
        by_cases h0 : wrS y b = 0
        · have HW2 := Lib.hid (HW.out.trans (waR_go h0))
          have H0 := Lib.hid h0
          clear h0 HW
          go_wp2_with fail
          generalize wr.alloc _ = wk at *
          have n0' : wk.cell? ⟨wr.heap.size, 0, none⟩ = some (.int .u32 b.n) := cell_of_row _ _ 0 _ _ _ HNB.out
          have n1' : wk.cell? ⟨wr.heap.size, 1, none⟩ = some (.string b.d) := cell_of_row _ _ 1 _ _ _ HNB.out
          go_at_call 50
          refine (write_at HV0.out b hbs).mono ?_
          rw [H0.out]
          rintro e wl ⟨rfl, A4, n4, c4, hV4⟩
          have HV4 := Lib.hid hV4
          clear hV4
          go_wp2_with fail
          exact ⟨⟨i + 1, by omega, by go_num, ⟨A4, n4, c4, wrU y b, HV4.out, HW2.out, HBK.out.trans (HV4.out.bel.mono HBK.out.size), below_row HQK.out HV4.out.bel (by omega)⟩⟩, by simp [intOf] <;> omega⟩
        · obtain ⟨hx, ho⟩ := Prod.mk.inj (show (YX, YO) = (wrU y b, wrS y b) from HW.out.trans (waR_stop h0))
          have HO := Lib.hid ho.symm
          have HXX := Lib.hid hx.symm
          have hq : ¬ YO = 0 := by rw [ho]; exact h0
          clear h0 HW hx ho
          go_wp2_with fail
          generalize wr.alloc _ = wk at *
          have n0' : wk.cell? ⟨wr.heap.size, 0, none⟩ = some (.int .u32 b.n) := cell_of_row _ _ 0 _ _ _ HNB.out
          have n1' : wk.cell? ⟨wr.heap.size, 1, none⟩ = some (.string b.d) := cell_of_row _ _ 1 _ _ _ HNB.out
          go_at_call 50
          refine (write_at HV0.out b hbs).mono ?_
          rw [HO.out, HXX.out]
          rintro e wl ⟨rfl, A4, n4, c4, hV4⟩
          have HV := Lib.hid hV4
          have HR9 := Lib.hid (below_row HQK.out hV4.bel (by omega))
          have HBL := Lib.hid (HBK.out.trans (hV4.bel.mono HBK.out.size))
          clear hV4
          have e0 := (row_dev HV.out.row).c0
          have e1 := (row_dev HV.out.row).c1
          have e2 := (row_dev HV.out.row).c2
          have e3 := (row_dev HV.out.row).c3
          have e4 := (row_dev HV.out.row).c4
          go_wp2_with (refine wpList_store_row rfl 25 (.tmp 4) (.tmp 27) rfl (w.heap.size + 1) (devC YX.N (.slice A1 n1 c1) (.slice A4 n4 c4) YX.dn YX.fu) rfl rfl 25 zAt HR9.out (by kernel_rfl) rfl (dev_one _ _ _ _ _ _ _ _ _) ?_)
          have hg2 := setRow_heap' (cs := devC YX.N (.slice A1 n1 c1) (.slice A4 n4 c4) YX.dn YX.fu) HR9.out
          refine bodyPost_ret (v := .tuple #[.agg (devC YX.N (.slice A1 n1 c1) (.slice A4 n4 c4) YX.dn YX.fu), .int .i64 YO]) (results_row2 rfl _ _ (w.heap.size + 1) 25 (devC YX.N (.slice A1 n1 c1) (.slice A4 n4 c4) YX.dn YX.fu) (0, 0) _ rfl hg2 Tryd.underlying25 rfl (by kernel_rfl) _ rfl) rfl ?_
          exact ⟨_, rfl, DevAt.own (HV.out.two.one.farRow (by omega) _) (HV.out.two.two.farRow (by omega) _) (Nat.le_trans HV.out.ld (by omega)) (Nat.le_trans HV.out.lw (by omega)) HV.out.lo HV.out.hi, below_setRow HBL.out (by omega) _⟩
      · obtain rfl : i = n0 := by omega
        obtain ⟨hx, ho⟩ := Prod.mk.inj (show (YX, YO) = (y, 0) by rw [hw, List.drop_eq_nil_of_le (by rw [HN0.out]; exact Nat.le_refl _)]; rfl)
        subst hx
        subst ho
        have HV := Lib.hid hV
        have HR9 := Lib.hid hr9
        have HBL := Lib.hid hbel
        clear hw hV hr9 hbel
        have e0 := (row_dev HV.out.row).c0
        have e1 := (row_dev HV.out.row).c1
        have e2 := (row_dev HV.out.row).c2
        have e3 := (row_dev HV.out.row).c3
        have e4 := (row_dev HV.out.row).c4
        go_wp2_with (refine wpList_store_row rfl 25 (.tmp 4) (.tmp 31) rfl (w.heap.size + 1) (devC YX.N (.slice A1 n1 c1) (.slice A3 n3 c3) YX.dn YX.fu) rfl rfl 25 zAt HR9.out (by kernel_rfl) rfl (dev_one _ _ _ _ _ _ _ _ _) ?_)
        have hg2 := setRow_heap' (cs := devC YX.N (.slice A1 n1 c1) (.slice A3 n3 c3) YX.dn YX.fu) HR9.out
        refine bodyPost_ret (v := .tuple #[.agg (devC YX.N (.slice A1 n1 c1) (.slice A3 n3 c3) YX.dn YX.fu), .int .i64 0]) (results_row2 rfl _ _ (w.heap.size + 1) 25 (devC YX.N (.slice A1 n1 c1) (.slice A3 n3 c3) YX.dn YX.fu) (0, 0) _ rfl hg2 Tryd.underlying25 rfl (by kernel_rfl) _ rfl) rfl ?_
        exact ⟨_, rfl, DevAt.own (HV.out.two.one.farRow (by omega) _) (HV.out.two.two.farRow (by omega) _) (Nat.le_trans HV.out.ld (by omega)) (Nat.le_trans HV.out.lw (by omega)) HV.out.lo HV.out.hi, below_setRow HBL.out (by omega) _⟩
theorem waX_one (x : De) (num : Nat) (s : ByteArray) : waX x [⟨num, s⟩] = wrX x num s := by
  unfold waX wrX
  by_cases h : x.rt = true
  · rw [if_pos h, if_pos h]
    by_cases h0 : wrS x ⟨num, s⟩ = 0
    · rw [waR_go h0]
      show wrU x ⟨num, s⟩ = _
      unfold wrU; rfl
    · rw [waR_stop h0]
      show wrU x ⟨num, s⟩ = _
      unfold wrU; rfl
  · rw [if_neg h, if_neg h]
theorem waO_one (x : De) (num : Nat) (s : ByteArray) : waO x [⟨num, s⟩] = wrO x num s := by
  unfold waO wrO
  by_cases h : x.rt = true
  · rw [if_pos h, if_pos h]
    by_cases h0 : wrS x ⟨num, s⟩ = 0
    · rw [waR_go h0]
      exact h0.symm
    · rw [waR_stop h0]
      show wrS x ⟨num, s⟩ = _
      unfold wrS; rfl
  · rw [if_neg h, if_neg h]
/-- another row that is no block's is put over -/
theorem SlB.offRow {w : World} {A : Option Addr} {n c : Nat} {D : List Bk} (h : SlB w A n c D) {g : Nat} (hr : w.heap[g]? = some (.cells zAt 25 (0, 0))) (cs : Array Value) : SlB (w.setRow g cs) A n c D := by
  obtain ⟨h1, h2, h3, B, hB, hL⟩ := h
  refine ⟨h1, h2, h3, B, by simp [World.setRow]; exact hB, fun i x hx => ?_⟩
  obtain ⟨b, o, hA, hb, hc⟩ := hL i x hx
  refine ⟨b, o, hA, hb, ?_⟩
  have c0 : w.cell? ⟨b, o + i * 2, none⟩ = some (.int .u32 x.n) := hc 0 _ rfl
  have c1 : w.cell? ⟨b, o + i * 2 + 1, none⟩ = some (.string x.d) := hc 1 _ rfl
  have hne : b ≠ g := by
    intro e
    subst e
    rw [cell_of_row _ _ _ _ _ _ hr] at c0 c1
    generalize o + i * 2 = q at c0 c1
    match q with
    | 0 => simp at c1
    | 1 => simp at c0
    | 2 => simp at c0
    | 3 => simp at c0
    | 4 => simp at c0
    | q + 5 => simp at c0
  intro j v hv
  exact (World.cell?_of_block (a := ⟨b, o + i * 2 + j, none⟩) ((grown_setRow w g cs).block b (World.block_lt_of_cell? w _ c0) (fun e => hne (by cases e; rfl)))).trans (hc j v hv)
theorem one_new (W0 : World) (b : Bk) : SlB (W0.alloc (.cells #[.int .u32 b.n, .string b.d] 41)) (some ⟨W0.heap.size, 0, none⟩) 1 1 [b] :=
  ⟨rfl, by decide, by decide, W0.heap.size + 1, by simp, Ls.new (enc := enc) (k := 2) W0 b 41 (W0.heap.size + 1) (Nat.lt_succ_self _)⟩
set_option maxRecDepth 100000 in
set_option maxHeartbeats 4000000 in
theorem write_any (x : De) (num : Nat) (s : ByteArray) (v : Value) (w : World) (hs63 : s.size ≤ 9223372036854775807) (hv : DevAt w v x) :
    Calls Tryd.prog 14 #[v, .int .u32 num, .string s] w fun e w' => ∃ v', e = .returned (.tuple #[v', .int .i64 (wrO x num s)]) ∧ DevAt w' v' (wrX x num s) ∧ Below w.heap.size w w' := by
  rw [← waX_one, ← waO_one]
  obtain ⟨A, n, c, A', m, c', rfl, hD, hW, hn, hm, f1, f2⟩ := hv
  obtain ⟨N, D, W, dn, fu⟩ := x
  dsimp only at hD hW f1 f2 ⊢
  obtain ⟨y, hy⟩ : ∃ y, waX ⟨N, D, W, dn, fu⟩ [⟨num, s⟩] = y := ⟨_, rfl⟩
  obtain ⟨o, ho⟩ : ∃ o, waO ⟨N, D, W, dn, fu⟩ [⟨num, s⟩] = o := ⟨_, rfl⟩
  rw [hy, ho]
  have HYX := Lib.hid hy
  have HYO := Lib.hid ho
  clear hy ho
  obtain ⟨R1, R2, S0, Z0⟩ := two_new w (devC N (.slice A n c) (.slice A' m c') dn fu) zAt 25 25
  unfold devV
  have hal : Below ((w.alloc (.cells (devC N (.slice A n c) (.slice A' m c') dn fu) 25)).alloc (.cells zAt 25)).heap.size ((w.alloc (.cells (devC N (.slice A n c) (.slice A' m c') dn fu) 25)).alloc (.cells zAt 25)) (((w.alloc (.cells (devC N (.slice A n c) (.slice A' m c') dn fu) 25)).alloc (.cells zAt 25)).alloc (.cells #[.int .u32 num, .string s] 41)) := (Below.refl _ _).alloc (Nat.le_refl _) _
  have HS1 := Lib.hid (S0.trans (hal.mono S0.size))
  have HR2 := Lib.hid (below_row R2 hal (row_lt R2))
  have HV := Lib.hid (show DevAt _ (devV N (.slice A n c) (.slice A' m c') dn fu) ⟨N, D, W, dn, fu⟩ from ⟨A, n, c, A', m, c', rfl, (hD.below S0).below hal, (hW.below S0).below hal, hn, hm, f1, f2⟩)
  have HLs := Lib.hid (show SlB (((w.alloc (.cells (devC N (.slice A n c) (.slice A' m c') dn fu) 25)).alloc (.cells zAt 25)).alloc (.cells #[.int .u32 num, .string s] 41)) (some ⟨w.heap.size + 1 + 1, 0, none⟩) 1 1 [(⟨num, s⟩ : Bk)] by
    have h1 := one_new ((w.alloc (.cells (devC N (.slice A n c) (.slice A' m c') dn fu) 25)).alloc (.cells zAt 25)) ⟨num, s⟩
    have h2 : ((w.alloc (.cells (devC N (.slice A n c) (.slice A' m c') dn fu) 25)).alloc (.cells zAt 25)).heap.size = w.heap.size + 1 + 1 := by simp
    rw [h2] at h1; exact h1)
  clear R1 R2 S0 Z0 hal hD hW
  go_enter Tryd.func14, Tryd.ntmps14
  go_wp2_with fail
  generalize World.alloc ((w.alloc _).alloc _) _ = W1 at *
  go_at_call 32
  refine (writeAll_any ⟨N, D, W, dn, fu⟩ [⟨num, s⟩] _ 1 1 _ W1 (fun b hb => by rw [List.mem_singleton.1 hb]; exact hs63) HLs.out HV.out).mono ?_
  rw [HYX.out, HYO.out]
  rintro e w2 ⟨v2, rfl, hv2, hb2⟩
  obtain ⟨A1, n1, c1, A2, n2, c2, rfl, h1, h2, l1, l2, f3, f4⟩ := hv2
  have HR9 := Lib.hid (below_row HR2.out hb2 (row_lt HR2.out))
  have HBL := Lib.hid (HS1.out.trans (hb2.mono HS1.out.size))
  have H1 := Lib.hid h1
  have H2 := Lib.hid h2
  clear hb2 h1 h2
  unfold devV
  go_wp2_with (refine wpList_store_row rfl 25 (.tmp 6) (.tmp 14) rfl (w.heap.size + 1) (devC y.N (.slice A1 n1 c1) (.slice A2 n2 c2) y.dn y.fu) rfl rfl 25 zAt HR9.out (by kernel_rfl) rfl (dev_one _ _ _ _ _ _ _ _ _) ?_)
  have hg2 := setRow_heap' (cs := devC y.N (.slice A1 n1 c1) (.slice A2 n2 c2) y.dn y.fu) HR9.out
  refine bodyPost_ret (v := .tuple #[.agg (devC y.N (.slice A1 n1 c1) (.slice A2 n2 c2) y.dn y.fu), .int .i64 o]) (results_row2 rfl _ _ (w.heap.size + 1) 25 (devC y.N (.slice A1 n1 c1) (.slice A2 n2 c2) y.dn y.fu) (0, 0) _ rfl hg2 Tryd.underlying25 rfl (by kernel_rfl) _ rfl) rfl ?_
  exact ⟨_, rfl, ⟨A1, n1, c1, A2, n2, c2, rfl, H1.out.offRow HR9.out _, H2.out.offRow HR9.out _, l1, l2, f3, f4⟩, below_setRow HBL.out (by omega) _⟩
end Go.Proofs.YtjkapmghifglcaaDoor.Dv
