/- Slices whose elements have some cells each: such as came in (Ls), such as a call made by append (Mk). No word of the program here. -/
import Derived.Test.YtjkmfonngbendaaGreatDoorArr
import Derived.Maps.AppendAt
import Derived.Deep.AppendLies
import Derived.Deep.Draws
namespace Go.Proofs.YtjkmfonngbendaaGreatDoor.Ar
set_option linter.unusedVariables false
open Go.RowKit
section
variable {α : Type}
theorem add_plain (b o q : Nat) : (⟨b, o, none⟩ : Addr).add q = ⟨b, o + q, none⟩ := by unfold Addr.add; split <;> simp_all
/-- the elements of D lie where a slice's address says, none of them in a block behind B -/
def Ls (enc : α → List Value) (k : Nat) (w : World) (B : Nat) (A : Option Addr) (D : List α) : Prop :=
  ∀ i x, D[i]? = some x → ∃ b o, A = some ⟨b, o, none⟩ ∧ b < B ∧ w.rangeAt b (o + i * k) (enc x)
variable {enc : α → List Value} {k B B' g : Nat} {w w' wr : World} {A : Option Addr} {D E : List α}
theorem Ls.nil : Ls enc k w B A [] := fun i x h => by simp at h
theorem Ls.below (h : Ls enc k w B A D) (hb : Below B w w') : Ls enc k w' B A D := fun i x hx => by
  obtain ⟨b, o, e, h1, h2⟩ := h i x hx
  exact ⟨b, o, e, h1, fun j v hv => (World.cell?_of_block (a := ⟨b, _, none⟩) (hb.block b h1)).trans (h2 j v hv)⟩
theorem Ls.more (h : Ls enc k w B A D) (hB : B ≤ B') : Ls enc k w B' A D := fun i x hx => by
  obtain ⟨b, o, e, h1, h2⟩ := h i x hx
  exact ⟨b, o, e, by omega, h2⟩
theorem Ls.take (h : Ls enc k w B A D) (n : Nat) : Ls enc k w B A (D.take n) := fun i x hx => by
  rw [List.getElem?_take] at hx
  split at hx
  · exact h i x hx
  · cases hx
theorem Ls.new (w : World) (x : α) (e : TypeId) (B : Nat) (hB : w.heap.size < B) : Ls enc k (w.alloc (.cells (enc x).toArray e)) B (some ⟨w.heap.size, 0, none⟩) [x] := fun i y hy => by
  match i, hy with
  | 0, hy =>
    simp at hy; subst hy
    refine ⟨w.heap.size, 0, rfl, hB, fun j v hv => ?_⟩
    rw [Nat.zero_mul, Nat.zero_add, cell_of_row _ _ _ (enc x).toArray e (0, 0) (heap_alloc_new w _)]
    simpa using hv
theorem flat_get (hk : ∀ x, (enc x).length = k) {i j : Nat} {x : α} {u : Value} (hx : D[i]? = some x) (hu : (enc x)[j]? = some u) : (D.flatMap enc)[i * k + j]? = some u := by
  have hj : j < k := by rw [← hk x]; exact (List.getElem?_eq_some_iff.1 hu).1
  induction D generalizing i with
  | nil => simp at hx
  | cons y D ih =>
    rw [List.flatMap_cons]
    cases i with
    | zero =>
      simp at hx; subst hx
      rw [Nat.zero_mul, Nat.zero_add, List.getElem?_append_left (by rw [hk]; exact hj)]
      exact hu
    | succ i =>
      rw [List.getElem?_append_right (by rw [hk, Nat.succ_mul]; omega), hk, show (i + 1) * k + j - k = i * k + j by rw [Nat.succ_mul]; omega]
      exact ih (by simpa using hx)
theorem flat_of (hk : ∀ x, (enc x).length = k) {q : Nat} {u : Value} (hu : (D.flatMap enc)[q]? = some u) : ∃ i j x, q = i * k + j ∧ D[i]? = some x ∧ (enc x)[j]? = some u := by
  induction D generalizing q with
  | nil => simp at hu
  | cons y D ih =>
    rw [List.flatMap_cons] at hu
    by_cases h : q < k
    · rw [List.getElem?_append_left (by rw [hk]; exact h)] at hu
      exact ⟨0, q, y, by simp, by simp, hu⟩
    · rw [List.getElem?_append_right (by rw [hk]; omega), hk] at hu
      obtain ⟨i, j, x, h1, h2, h3⟩ := ih hu
      exact ⟨i + 1, j, x, by rw [Nat.succ_mul]; omega, by simpa using h2, h3⟩
theorem flat_len (hk : ∀ x, (enc x).length = k) : (D.flatMap enc).length = D.length * k := by
  induction D with
  | nil => simp
  | cons y D ih => rw [List.flatMap_cons, List.length_append, hk, ih, List.length_cons, Nat.succ_mul]; omega
theorem flat_one (h1 : ∀ x, ∀ u ∈ enc x, u.oneCell' = true) : ∀ u ∈ D.flatMap enc, u.oneCell' = true := by
  intro u hu
  obtain ⟨x, _, h⟩ := List.mem_flatMap.1 hu
  exact h1 x u h
theorem Ls.made (hk : ∀ x, (enc x).length = k) (w : World) (D : List α) (e : TypeId) (B : Nat) (hB : w.heap.size < B) : Ls enc k (w.alloc (.cells (D.flatMap enc).toArray e)) B (some ⟨w.heap.size, 0, none⟩) D := fun i x hx => by
  refine ⟨w.heap.size, 0, rfl, hB, fun j v hv => ?_⟩
  rw [Nat.zero_add, cell_of_row _ _ _ (D.flatMap enc).toArray e (0, 0) (heap_alloc_new w _)]
  have := flat_get hk hx hv
  simpa using this
/-- D is what the slice v has, in memory of the call's own; of what was there when it began (in w) nothing has turned -/
def Mk (enc : α → List Value) (k : Nat) (e : TypeId) (w wr : World) (v : Value) (D : List α) : Prop :=
  wr.ownsRow w.heap.size e k v D.length (D.flatMap enc) ∧ Below w.heap.size w wr
variable {e : TypeId} {v : Value}
theorem Mk.nil (h : Below w.heap.size w wr) : Mk enc k e w wr (.slice none 0 0) [] := ⟨World.ownsRow_nil _ _ _ _, h⟩
theorem Mk.go (h : Mk enc k e w wr v D) (hb : Below wr.heap.size wr w') : Mk enc k e w w' v D :=
  ⟨h.1.kept ⟨hb.os, hb.tape, hb.output, hb.size, fun k hk _ => hb.block k hk⟩ (Classical.em _), h.2.trans (hb.mono h.2.size)⟩
theorem Mk.alloc (h : Mk enc k e w wr v D) (o : Obj) : Mk enc k e w (wr.alloc o) v D := h.go ((Below.refl _ _).alloc (Nat.le_refl _) _)
theorem Mk.drewN (h : Mk enc k e w wr v D) (n : Nat) : Mk enc k e w (wr.drewN n) v D := h.go ⟨rfl, rfl, rfl, Nat.le_refl _, fun _ _ => rfl⟩
theorem Mk.ls (hk : ∀ x, (enc x).length = k) (h : Mk enc k e w wr v D) : ∃ A c, v = .slice A D.length c ∧ D.length ≤ c ∧ c ≤ maxLen ∧ Ls enc k wr wr.heap.size A D := by
  rcases h.1.2 with ⟨rfl, h0⟩ | ⟨g, cap, cur, rfl, hb, hg, hn, hc, hcs, ht⟩
  · have : D = [] := List.eq_nil_of_length_eq_zero h0
    subst this
    exact ⟨_, _, rfl, Nat.le_refl _, Nat.zero_le _, Ls.nil⟩
  · refine ⟨_, _, rfl, hn, hc, fun i x hx => ⟨g, 0, rfl, ?_, fun j u hu => ?_⟩⟩
    · rcases Nat.lt_or_ge g wr.heap.size with hlt | hge
      · exact hlt
      · rw [Array.getElem?_eq_none hge] at hg; cases hg
    · rw [Nat.zero_add]
      have := h.1.cells (g := g) rfl _ _ (flat_get hk hx hu)
      have e1 : (⟨g, 0, none⟩ : Addr).add (i * k + j) = ⟨g, i * k + j, none⟩ := by unfold Addr.add; split <;> simp_all
      rw [e1] at this
      exact this
/-- made from a later world on: made from an earlier one on -/
theorem Mk.since {w0 : World} (h : Mk enc k e w wr v D) (hb : Below w0.heap.size w0 w) : Mk enc k e w0 wr v D := by
  refine ⟨⟨h.1.1, ?_⟩, hb.trans (h.2.mono hb.size)⟩
  rcases h.1.2 with h0 | ⟨g, cap, cur, rfl, hg, rest⟩
  · exact .inl h0
  · exact .inr ⟨g, cap, cur, rfl, Nat.le_trans hb.size hg, rest⟩
theorem Ls.drop (h : Ls enc k w B A D) {n c p : Nat} (hn : n = D.length) (hc : n ≤ c) (hp : p ≤ n) : Ls enc k w B (if c = p then A else A.map (·.add (p * k))) (D.drop p) := fun i x hx => by
  rw [List.getElem?_drop] at hx
  have hl := (List.getElem?_eq_some_iff.1 hx).1
  rw [if_neg (by omega)]
  obtain ⟨b, o, rfl, hb, hr⟩ := h (p + i) x hx
  refine ⟨b, o + p * k, by rw [Option.map_some, add_plain], hb, ?_⟩
  have e1 : o + p * k + i * k = o + (p + i) * k := by rw [Nat.add_mul]; omega
  rw [e1]
  exact hr
theorem Ls.of_arr (h : Arr enc k w g D) (hg : g < B) : Ls enc k w B (some ⟨g, 0, none⟩) D := fun i x hx => ⟨g, 0, rfl, hg, by rw [Nat.zero_add]; exact (h i x hx).1⟩
/-- what a call made, where it is something: a block that may be written -/
theorem Mk.arr (hk : ∀ x, (enc x).length = k) (h : Mk enc k e w wr v D) : (v = .slice none 0 0 ∧ D = []) ∨ ∃ g c, v = .slice (some ⟨g, 0, none⟩) D.length c ∧ D.length ≤ c ∧ c ≤ maxLen ∧ w.heap.size ≤ g ∧ g < wr.heap.size ∧ Arr enc k wr g D := by
  rcases h.1.2 with ⟨rfl, h0⟩ | ⟨g, cap, cur, rfl, hb, hg, hn, hc, hcs, ht⟩
  · exact .inl ⟨rfl, List.eq_nil_of_length_eq_zero h0⟩
  · refine .inr ⟨g, cap, rfl, hn, hc, hb, ?_, fun i x hx => ⟨fun j u hu => ?_, fun j hj => frozen_of_row wr g _ cur e hg⟩⟩
    · rcases Nat.lt_or_ge g wr.heap.size with hlt | hge
      · exact hlt
      · rw [Array.getElem?_eq_none hge] at hg; cases hg
    · have := h.1.cells (g := g) rfl _ _ (flat_get hk hx hu)
      rw [add_plain, Nat.zero_add] at this
      exact this
/-- a block of the call's own that is not the slice's: its cells stay when the slice grows -/
theorem Mk.keep {w2 w3 : World} {o : Nat} {u : Value} (h : Mk enc k e w wr v D) (hG : w2.grownBy w3 v.ownBlock) (hg : wr.heap.size ≤ g) (hc : w2.cell? ⟨g, o, none⟩ = some u) : w3.cell? ⟨g, o, none⟩ = some u := by
  have hlt := World.block_lt_of_cell? w2 _ hc
  refine (World.cell?_of_block (a := ⟨g, o, none⟩) (hG.block g hlt ?_)).trans hc
  intro e1
  have := (h.1.lt g e1.symm).2
  omega
theorem run_cat {P : Program} (t ty : TypeId) (i : TypeInfo) (z : Value) (bytes : Nat) (ht : P.underlying t = some (.slice e)) (hi : P.info? e = some i) (hz : i.zero = some z)
    (hsize : i.size = k) (hby : i.bytes = bytes) (hzs : z.cells.size = k) (hsz : 0 < k) (hk : ∀ x, (enc x).length = k) (h1 : ∀ x, ∀ u ∈ enc x, u.oneCell' = true)
    (hM : Mk enc k e w wr v D) (m c : Nat) (hm : m = E.length) (hL : Ls enc k wr B A E) (h63 : D.length + m ≤ maxLen) (hbytes : (D.length + m) * bytes ≤ 140737488355328) :
    ∃ v' w', (Builtin.append_ #[t, t] ty #[v, .slice A m c]).run P wr = .ok v' w' ∧ Mk enc k e w w' v' (D ++ E) ∧ wr.grownBy w' v.ownBlock := by
  obtain ⟨hown, hb⟩ := hM
  rcases A with _ | ad
  · have hE : E = [] := by
      cases E with
      | nil => rfl
      | cons y E =>
        obtain ⟨_, _, h, _⟩ := hL 0 y rfl
        cases h
    subst hE
    simp only [List.length_nil] at hm
    subst hm
    refine ⟨v, wr, ?_, ⟨by rw [List.append_nil]; exact hown, hb⟩, grown_refl _ _⟩
    rcases hown.2 with ⟨rfl, _⟩ | ⟨g, cap, cur, rfl, _, _, hnc, _⟩
    · simp [Builtin.append_, run_underlying ht, sizeOf, typeInfo, hi, Builtin.lenOf, Builtin.firstCells]
    · simp [Builtin.append_, run_underlying ht, sizeOf, typeInfo, hi, Builtin.lenOf, Builtin.firstCells, hnc, storeCells]
  · have hnews : ∀ j u, (E.flatMap enc)[j]? = some u → wr.cell? (ad.add j) = some u := by
      intro q u hu
      obtain ⟨i, j, x, rfl, hx, hj⟩ := flat_of hk hu
      obtain ⟨b, o, he, _, hr⟩ := hL i x hx
      cases he
      rw [add_plain, ← Nat.add_assoc]
      exact hr j u hj
    obtain ⟨v', w', hrun, h2, h3, _, h5⟩ := run_append_own_at (P := P) wr w.heap.size t ty e i z k bytes ht hi hz hsize hby hzs hsz v D.length _ hown ad m c (E.flatMap enc) (by rw [flat_len hk, hm]) hnews (flat_one h1) h63 hbytes hb.size
    refine ⟨v', w', hrun, ⟨?_, hb.grown h3 hb.size fun q hq => (hown.lt q hq).1⟩, h3⟩
    rw [List.length_append, List.flatMap_append, ← hm]
    exact h2
theorem wpList_cat {P : Program} {ops : Array Oper} {rest : List Oper} {o : Oper} {a : Act} {Q : Exit → Act → World → Prop} (t : TypeId) (i : TypeInfo) (z : Value) (bytes : Nat) (ht : P.underlying t = some (.slice e)) (hi : P.info? e = some i) (hz : i.zero = some z)
    (hsize : i.size = k) (hby : i.bytes = bytes) (hzs : z.cells.size = k) (hsz : 0 < k) (hk : ∀ x, (enc x).length = k) (h1 : ∀ x, ∀ u ∈ enc x, u.oneCell' = true)
    (hM : Mk enc k e w wr v D) (m c : Nat) (hm : m = E.length) (hL : Ls enc k wr B A E) (h63 : D.length + m ≤ maxLen) (hbytes : (D.length + m) * bytes ≤ 140737488355328)
    (hgd : o.guard = none) (s x : Operand) (ho : o.op = .call { callee := .builtin .append, args := #[s, x], argTypes := #[t, t] }) (hs : a.eval s = v) (hx : a.eval x = .slice A m c)
    (h : ∀ v' w', Mk enc k e w w' v' (D ++ E) → wr.grownBy w' v.ownBlock → wpList P ops Q rest (a.put o.dst v') w') : wpList P ops Q (o :: rest) a wr := by
  refine wpList_plain hgd fun K hK => ?_
  obtain ⟨v', w', hr, h2, h3⟩ := run_cat (P := P) t o.type i z bytes ht hi hz hsize hby hzs hsz hk h1 hM m c hm hL h63 hbytes
  unfold Oper.wp execOp
  simp only [ho, resolve, invoke, builtin, Sem.run_bind, Sem.run_pure, Result.andThen_ok, List.map_toArray, List.map_cons, List.map_nil, hs, hx, hr]
  exact hK _ _ (h v' w' h2 h3)
end
end Go.Proofs.YtjkmfonngbendaaGreatDoor.Ar
