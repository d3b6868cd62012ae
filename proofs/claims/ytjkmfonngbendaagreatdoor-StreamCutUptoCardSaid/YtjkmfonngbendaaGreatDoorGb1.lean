/- Maps whose keys and elements are the values of some data: one word for what a map has. No word of the program here. -/
import Derived.Test.YtjkmfonngbendaaGreatDoorRows
import Derived.Test.YtjkmfonngbendaaGreatDoorLs
import Derived.Test.YtjkmfonngbendaaGreatDoorItB
import Derived.Test.YtjkmfonngbendaaGreatDoorShf
import Derived.Test.YtjkmfonngbendaaGreatDoorRgG
import Derived.Test.YtjkmfonngbendaaGreatDoorMathC
import Derived.Maps.Own
import Derived.Maps.OwnSet
import Derived.Maps.Views
import Derived.Maps.RangeWalk
import Derived.WalkKit
import Derived.Lib.Bytealg
import Derived.ProofKit
import Derived.Handy
import Derived.BigQuiet
import Derived.Deep.QuietTactic
import Derived.Deep.MidRow
import Derived.Tactics
import Derived.Tactics2
import Derived.Defers
import Derived.Laws.Pointers
import Derived.Laws.LoneSync
import Derived.Laws.NewBlocks
import Derived.RegionTactic
import Derived.RegionCalls
import Derived.ChangeAlike
import Derived.Outline
import Derived.Lib.Hide
import Derived.WalkLawsBesides
import Derived.WalkSpells
import Derived.Laws.IdiomStrings
import Derived.DeepKeys3
namespace Go.Proofs.YtjkmfonngbendaaGreatDoor.Mq
set_option linter.unusedVariables false
set_option linter.unusedSimpArgs false
open Go.ChangeShapes Go.WideShapes Go.WideMaps Go.Maps Go.RowKit
/-- how an element reads: as itself -/
noncomputable def rdv {α : Type} (vv : α → Value) (v : Value) : Option (DataW α × List MemPlace) := @dite _ (∃ a, v = vv a) (Classical.propDecidable _) (fun h => some (.held h.choose, [])) (fun _ => none)
theorem rdv_mk {α : Type} {vv : α → Value} (hi : ∀ x y, vv x = vv y → x = y) (a : α) : rdv vv (vv a) = some (.held a, []) := by
  unfold rdv
  have h : ∃ b, vv a = vv b := ⟨a, rfl⟩
  rw [dif_pos h, ← hi _ _ h.choose_spec]
theorem rdv_inv {α : Type} {vv : α → Value} {v : Value} {a : α} {ps : List MemPlace} (h : rdv vv v = some (.held a, ps)) : v = vv a := by
  unfold rdv at h
  split at h
  · rename_i h1
    simp only [Option.some.injEq, Prod.mk.injEq, DataW.held.injEq] at h
    rw [← h.1]; exact h1.choose_spec
  · cases h
theorem rdv_some {α : Type} {vv : α → Value} {v : Value} {y : DataW α × List MemPlace} (h : rdv vv v = some y) : ∃ a, v = vv a ∧ y.1 = .held a := by
  unfold rdv at h
  split at h
  · rename_i h1
    cases h
    exact ⟨h1.choose, h1.choose_spec, rfl⟩
  · cases h
/-- a type of maps -/
structure MT (P : Program) (κ α : Type) where
  t : TypeId
  k : TypeId
  e : TypeId
  kv : κ → Value
  vv : α → Value
  z : α
  kok : κ → Prop
  und : P.underlying t = some (.map k e)
  keyed : Keyed P k
  zero : ∀ w, (zeroValue e).run P w = .ok (vv z) w
  kinj : ∀ x y, kv x = kv y → x = y
  vinj : ∀ x y, vv x = vv y → x = y
  key : ∀ x, kok x → ∃ l, keyOf P k (kv x) = some l
section
variable {P : Program} {κ α : Type} (M : MT P κ α)
def MT.kl (x : κ) : Lit := (keyOf P M.k (M.kv x)).getD (.bool true)
theorem MT.key' {x : κ} (h : M.kok x) : keyOf P M.k (M.kv x) = some (M.kl x) := by
  obtain ⟨l, hl⟩ := M.key x h
  unfold MT.kl
  rw [hl]; rfl
theorem MT.kl_ne {x y : κ} (hx : M.kok x) (hy : M.kok y) (h : x ≠ y) : M.kl x ≠ M.kl y := fun e => h (M.kinj _ _ (M.keyed.inj (M.key' hx) (by rw [e]; exact M.key' hy)))
/-- the map in block b has F (at most n entries) -/
def MT.At (w : World) (b n : Nat) (F : κ → Option α) : Prop := ∃ D, w.ownsMap P M.k (rdv M.vv) b n D ∧ (∀ x, M.kok x → Maps.has D (M.kl x) = (F x).isSome) ∧ ∀ x a, M.kok x → F x = some a → ∀ z, D.atKey (M.kl x) z = .held a
variable {M} {w w' : World} {b n : Nat} {F G : κ → Option α}
theorem MT.At.lt (h : M.At w b n F) : b < w.heap.size := by obtain ⟨D, h1, _⟩ := h; exact h1.lt
theorem MT.At.keep (h : M.At w b n F) (e : w'.heap[b]? = w.heap[b]?) : M.At w' b n F := by
  obtain ⟨D, ⟨es, clock, h1, r⟩, h2⟩ := h
  exact ⟨D, ⟨es, clock, e.trans h1, r⟩, h2⟩
theorem MT.At.mono (h : M.At w b n F) {m : Nat} (hm : n ≤ m) : M.At w b m F := by
  obtain ⟨D, h1, h2⟩ := h
  exact ⟨D, h1.mono hm, h2⟩
theorem MT.At.go (h : M.At w b n F) {B : Nat} (hB : b < B) (hb : Below B w w') : M.At w' b n F := h.keep (hb.block b hB)
theorem MT.At.made (M : MT P κ α) (w : World) : M.At (w.alloc (.map #[] 0)) w.heap.size 0 (fun _ => none) :=
  ⟨.map [], World.ownsMap_made w P M.k _, fun x _ => rfl, fun x a _ h => by cases h⟩
theorem MT.At.same (h : M.At w b n F) (e : ∀ x, M.kok x → G x = F x) : M.At w b n G := by
  obtain ⟨D, h1, h2, h3⟩ := h
  exact ⟨D, h1, fun x hx => by rw [e x hx]; exact h2 x hx, fun x a hx hF => h3 x a hx (by rw [← e x hx]; exact hF)⟩
theorem MT.At.look (h : M.At w b n F) {x : κ} (hx : M.kok x) : (Instr.lookup M.t (.map (some b)) (M.kv x) false).run P w = .ok (M.vv ((F x).getD M.z)) w := by
  obtain ⟨D, h1, h2, h3⟩ := h
  obtain ⟨v, ps, hr, hv⟩ := h1.lookup M.keyed M.und (M.zero w) (rdv_mk M.vinj M.z) (M.key' hx)
  rw [hr]
  congr 1
  cases e : F x with
  | none =>
    rw [atKey_of_not_has (by rw [h2 x hx, e]; rfl)] at hv
    exact rdv_inv hv
  | some a =>
    rw [h3 x a hx e] at hv
    exact rdv_inv hv
theorem MT.At.look_ok (h : M.At w b n F) {x : κ} (hx : M.kok x) : (Instr.lookup M.t (.map (some b)) (M.kv x) true).run P w = .ok (.tuple #[M.vv ((F x).getD M.z), .bool (F x).isSome]) w := by
  obtain ⟨D, h1, h2, h3⟩ := h
  obtain ⟨v, ps, hr, hv⟩ := h1.look_ok M.keyed M.und (M.zero w) (rdv_mk M.vinj M.z) (M.key' hx)
  rw [hr, h2 x hx]
  have e1 : v = M.vv ((F x).getD M.z) := by
    cases e : F x with
    | none =>
      rw [atKey_of_not_has (by rw [h2 x hx, e]; rfl)] at hv
      exact rdv_inv hv
    | some a =>
      rw [h3 x a hx e] at hv
      exact rdv_inv hv
  rw [e1]
theorem MT.At.put (h : M.At w b n F) (hn : n < maxLen) {x : κ} (hx : M.kok x) (a : α) (hG : G x = some a) (hO : ∀ y, y ≠ x → G y = F y) :
    ∃ w', (Instr.mapUpdate M.t (.map (some b)) (M.kv x) (M.vv a)).run P w = .ok () w' ∧ M.At w' b (n + 1) G ∧ w.grownBy w' (some b) := by
  obtain ⟨D, h1, h2, h3⟩ := h
  obtain ⟨w', hr, ho, hg⟩ := h1.update M.keyed M.und hn (M.key' hx) (rdv_mk M.vinj a)
  have hm := h1.isMap
  have hk : WideAt.IsKeyLit (M.kl x) := M.keyed.key (M.key' hx)
  refine ⟨w', hr, ⟨_, ho, fun y hy => ?_, fun y c hy hc z => ?_⟩, hg⟩
  · by_cases e : y = x
    · subst e; rw [has_put_same hm hk, hG]; rfl
    · rw [has_put_other (M.kl_ne hy hx e), h2 y hy, hO y e]
  · by_cases e : y = x
    · subst e
      rw [hG] at hc; cases hc
      exact atKey_put_same hm hk _ _
    · rw [atKey_put_other (M.kl_ne hy hx e)]
      exact h3 y c hy (by rw [← hO y e]; exact hc) z
theorem nodup_sub {β : Type} : ∀ (xs ys : List β), xs.Nodup → (∀ x ∈ xs, x ∈ ys) → xs.length ≤ ys.length
  | [], _, _, _ => Nat.zero_le _
  | x :: xs, ys, hn, hs => by
    obtain ⟨s, t, rfl⟩ := List.append_of_mem (hs x (by simp))
    obtain ⟨h1, h2⟩ := List.nodup_cons.1 hn
    have := nodup_sub xs (s ++ t) h2 fun y hy => by
      have h3 := hs y (by simp [hy])
      rcases List.mem_append.1 h3 with h | h
      · exact List.mem_append_left _ h
      · rcases List.mem_cons.1 h with h | h
        · subst h; exact absurd hy h1
        · exact List.mem_append_right _ h
    simp only [List.length_append, List.length_cons] at this ⊢
    omega
theorem MT.At.len (h : M.At w b n F) : ∃ N, N ≤ n ∧ (∀ w', w'.heap[b]? = w.heap[b]? → ∀ ty, (Builtin.len_ #[M.t] ty #[.map (some b)]).run P w' = .ok (.int .i64 (N : Nat)) w') ∧ ∀ ks : List κ, ks.Nodup → (∀ x ∈ ks, M.kok x ∧ (F x).isSome = true) → ks.length ≤ N := by
  obtain ⟨D, h1, h2, h3⟩ := h
  refine ⟨Maps.size D, h1.size_le, fun w' e ty => ?_, fun ks hn hs => ?_⟩
  · obtain ⟨es, clock, hb, r⟩ := h1
    exact World.ownsMap.len (w := w') ⟨es, clock, e.trans hb, r⟩ M.und ty
  obtain ⟨es, rfl, hp, _⟩ := h1.entries M.keyed
  have := nodup_sub (ks.map M.kl) (es.map (·.1)) (by
    rw [List.nodup_iff_pairwise_ne, List.pairwise_map]
    exact (List.nodup_iff_pairwise_ne.1 hn).imp_of_mem fun {a c} ha hc hne => M.kl_ne (hs a ha).1 (hs c hc).1 hne) (fun l hl => by
    obtain ⟨x, hx, rfl⟩ := List.mem_map.1 hl
    have h4 := h2 x (hs x hx).1
    rw [(hs x hx).2] at h4
    obtain ⟨p, hp, hpk⟩ := List.any_eq_true.1 h4
    exact List.mem_map.2 ⟨p, hp, WideAt.sameKey_eq hpk⟩)
  rw [List.length_map, List.length_map] at this
  exact this
/-- a loop over a map: which keys are still to come -/
def MT.Rng (M : MT P κ α) (w : World) (b r n : Nat) (F : κ → Option α) (left : κ → Bool) (cnt : Nat) : Prop := ∃ D l, w.ranges P M.k (rdv M.vv) b r n D l cnt ∧ (∀ x, M.kok x → Maps.has D (M.kl x) = (F x).isSome) ∧ (∀ x a, M.kok x → F x = some a → ∀ z, D.atKey (M.kl x) z = .held a) ∧ ∀ x, M.kok x → l (M.kl x) = left x
theorem MT.Rng.at_ {r cnt : Nat} {left : κ → Bool} (h : M.Rng w b r n F left cnt) : M.At w b n F := by
  obtain ⟨D, l, h1, h2, h3, _⟩ := h
  exact ⟨D, h1.owns, h2, h3⟩
theorem MT.Rng.left_eq {r cnt : Nat} {left : κ → Bool} (h : M.Rng w b r n F left cnt) : w.rangeLeft b r = cnt := by
  obtain ⟨D, l, h1, _⟩ := h
  exact h1.left_eq
theorem MT.Rng.lt {r cnt : Nat} {left : κ → Bool} (h : M.Rng w b r n F left cnt) : r < w.heap.size ∧ r ≠ b := by
  obtain ⟨D, l, h1, _⟩ := h
  exact ⟨h1.lt, h1.ne⟩
theorem MT.Rng.keep {r cnt : Nat} {left : κ → Bool} (h : M.Rng w b r n F left cnt) (e1 : w'.heap[b]? = w.heap[b]?) (e2 : w'.heap[r]? = w.heap[r]?) : M.Rng w' b r n F left cnt := by
  obtain ⟨D, l, ⟨es, clock, since, seen, c0, hb, hF, hs, hD, hr, rest⟩, h2⟩ := h
  exact ⟨D, l, ⟨es, clock, since, seen, c0, e1.trans hb, hF, hs, hD, e2.trans hr, rest⟩, h2⟩
theorem MT.At.range (h : M.At w b n F) : ∃ w' cnt, cnt ≤ n ∧ (Instr.range M.t (.map (some b))).run P w = .ok (.pointer (some ⟨w.heap.size, 0, none⟩)) w' ∧ M.Rng w' b w.heap.size n F (fun x => (F x).isSome) cnt ∧ w.grownBy w' none ∧ w'.heap.size = w.heap.size + 1 := by
  obtain ⟨D, h1, h2, h3⟩ := h
  obtain ⟨w', hr, hg, hw, hs⟩ := h1.range M.keyed M.und
  exact ⟨w', _, h1.size_le, hr, ⟨D, _, hg, h2, h3, h2⟩, hw, hs⟩
theorem MT.Rng.next [DecidableEq κ] {r cnt : Nat} {left : κ → Bool} (h : M.Rng w b r n F left cnt) (hall : ∀ v l, keyOf P M.k v = some l → ∃ x, v = M.kv x ∧ M.kok x) (ty : TypeId) :
    (cnt = 0 ∧ (∀ x, M.kok x → left x = false) ∧ (Instr.next (.pointer (some ⟨r, 0, none⟩)) false ty).run P w = .ok (.tuple #[.bool false]) w) ∨
    ∃ x a w' cnt', M.kok x ∧ left x = true ∧ F x = some a ∧ (Instr.next (.pointer (some ⟨r, 0, none⟩)) false ty).run P w = .ok (.tuple #[.bool true, M.kv x, M.vv a]) w' ∧
      M.Rng w' b r n F (fun y => left y && decide (y ≠ x)) cnt' ∧ cnt' < cnt ∧ w.grownBy w' (some r) ∧ w'.heap.size = w.heap.size ∧ (Instr.entry (.pointer (some ⟨r, 0, none⟩))).run P w' = .ok (.tuple #[M.kv x, M.vv a]) w' := by
  obtain ⟨D, l, h1, h2, h3, h4⟩ := h
  rcases h1.next M.keyed ty with ⟨hc, hl, hr⟩ | ⟨key, v, kl, y, w', cnt', hkey, hlk, hv, hat, hr, hrg, hlt, hg, hs, hen⟩
  · exact .inl ⟨hc, fun x hx => by rw [← h4 x hx]; exact hl _, hr⟩
  · obtain ⟨x, rfl, hx⟩ := hall _ _ hkey
    have ek : kl = M.kl x := by have := M.key' hx; rw [hkey] at this; exact Option.some.inj this
    subst ek
    obtain ⟨a, rfl, ha⟩ := rdv_some hv
    refine .inr ⟨x, a, w', cnt', hx, (h4 x hx).symm.trans hlk, ?_, hr, ⟨D, _, hrg, h2, h3, fun y hy => ?_⟩, hlt, hg, hs, hen⟩
    · cases e : F x with
      | none =>
        have h5 := hat (.lit (.bool true))
        have h5' := hat .nil
        rw [atKey_of_not_has (by rw [h2 x hx, e]; rfl)] at h5 h5'
        rw [← h5'] at h5
        cases h5
      | some c =>
        have h5 := hat .nil
        rw [h3 x c hx e, ha] at h5
        cases h5
        rfl
    · show (l (M.kl y) && !(M.kl y).sameKey (M.kl x)) = _
      rw [h4 y hy]
      congr 1
      by_cases e : y = x
      · subst e
        rw [WideAt.sameKey_self (M.keyed.key (M.key' hy))]; simp
      · rw [sameKey_ne (M.kl_ne hy hx e)]; simp [e]
variable {ops : Array Oper} {rest : List Oper} {o : Oper} {a : Act} {Q : Exit → Act → World → Prop}
/-- 'm[k] = v' -/
theorem wpList_put (M : MT P κ α) (hg : o.guard = none) (m x v : Operand) (hop : o.op = Op.mapUpdate M.t m x v ∨ o.op = Op.insert M.t m x v) (b n : Nat) (F G : κ → Option α) (hm : a.eval m = .map (some b)) (h : M.At w b n F) (hn : n < maxLen) (y : κ) (hy : M.kok y) (hx : a.eval x = M.kv y) (c : α) (hv : a.eval v = M.vv c) (hG : G y = some c) (hO : ∀ z, z ≠ y → G z = F z)
    (hK : ∀ w', M.At w' b (n + 1) G → w.grownBy w' (some b) → wpList P ops Q rest (a.put o.dst undef) w') : wpList P ops Q (o :: rest) a w := by
  refine wpList_plain hg fun K' hK' => ?_
  obtain ⟨w', hrun, r1, r2⟩ := h.put hn hy c hG hO
  unfold Oper.wp
  rcases hop with hop | hop
  · simp [execOp, hop, hm, hx, hv, hrun, Result.andThen]
    exact hK' _ _ (hK w' r1 r2)
  · simp [execOp, hop, hm, hx, hv, hrun, Result.andThen]
    exact hK' _ _ (hK w' r1 r2)
/-- 'range m' -/
theorem wpList_range (M : MT P κ α) (hg : o.guard = none) (m : Operand) (hop : o.op = Op.range M.t m) (b n : Nat) (F : κ → Option α) (hm : a.eval m = .map (some b)) (h : M.At w b n F)
    (hK : ∀ w' cnt, cnt ≤ n → M.Rng w' b w.heap.size n F (fun x => (F x).isSome) cnt → w.grownBy w' none → w'.heap.size = w.heap.size + 1 → wpList P ops Q rest (a.put o.dst (.pointer (some ⟨w.heap.size, 0, none⟩))) w') : wpList P ops Q (o :: rest) a w := by
  refine wpList_plain hg fun K' hK' => ?_
  obtain ⟨w', cnt, hc, hrun, r1, r2, r3⟩ := h.range
  unfold Oper.wp
  simp [execOp, hop, hm, hrun, Result.andThen]
  exact hK' _ _ (hK w' cnt hc r1 r2 r3)
/-- the step of a loop over a map -/
theorem wpList_nextM [DecidableEq κ] (M : MT P κ α) (hg : o.guard = none) (it : Operand) (hop : o.op = Op.next it false) (hall : ∀ v l, keyOf P M.k v = some l → ∃ x, v = M.kv x ∧ M.kok x) (b r n : Nat) (F : κ → Option α) (left : κ → Bool) (cnt : Nat)
    (hit : a.eval it = .pointer (some ⟨r, 0, none⟩)) (h : M.Rng w b r n F left cnt)
    (hDone : cnt = 0 → (∀ x, M.kok x → left x = false) → wpList P ops Q rest (a.put o.dst (.tuple #[.bool false])) w)
    (hMore : ∀ (x : κ) (c : α) (w' : World) (cnt' : Nat), M.kok x → left x = true → F x = some c → M.Rng w' b r n F (fun y => left y && decide (y ≠ x)) cnt' → cnt' < cnt → w.grownBy w' (some r) → w'.heap.size = w.heap.size →
      (Instr.entry (.pointer (some ⟨r, 0, none⟩))).run P w' = .ok (.tuple #[M.kv x, M.vv c]) w' → wpList P ops Q rest (a.put o.dst (.tuple #[.bool true, M.kv x, M.vv c])) w') : wpList P ops Q (o :: rest) a w := by
  refine wpList_plain hg fun K' hK' => ?_
  unfold Oper.wp
  rcases h.next hall o.type with ⟨h0, hl, hrun⟩ | ⟨x, c, w', cnt', hx, hlk, hF, hrun, hrg, hlt, hgr, hsz, hen⟩
  · simp [execOp, hop, hit, hrun, Result.andThen]
    exact hK' _ _ (hDone h0 hl)
  · simp [execOp, hop, hit, hrun, Result.andThen]
    exact hK' _ _ (hMore x c w' cnt' hx hlk hF hrg hlt hgr hsz hen)
end
end Go.Proofs.YtjkmfonngbendaaGreatDoor.Mq
/- Plain mathematics of names and paths: a path's names, the path of names, one under another. No word of the program's code here. -/
namespace Go.Proofs.YtjkmfonngbendaaGreatDoor.Ph
set_option linter.unusedVariables false
set_option linter.unusedSimpArgs false
/-- a name -/
def nm (l : List UInt8) : Bool := !l.isEmpty && decide (l.length ≤ 24) && !(l == [46]) && !(l == [46, 46]) && !l.contains 47 && !l.contains 0
theorem nm_iff {l : List UInt8} : nm l = true ↔ l ≠ [] ∧ l.length ≤ 24 ∧ l ≠ [46] ∧ l ≠ [46, 46] ∧ 47 ∉ l ∧ 0 ∉ l := by
  unfold nm
  cases l with
  | nil => simp
  | cons a l => simp [and_assoc, Classical.or_iff_not_imp_left]
/-- a name, of a string -/
def nb (s : ByteArray) : Bool := nm s.data.toList
theorem nm_len {l : List UInt8} (h : nm l = true) : 1 ≤ l.length ∧ l.length ≤ 24 := by
  obtain ⟨h1, h2, _⟩ := nm_iff.1 h
  refine ⟨?_, h2⟩
  cases l with
  | nil => exact absurd rfl h1
  | cons a l => simp
/-- what stands between slashes -/
def cut : List UInt8 → List (List UInt8)
  | [] => [[]]
  | c :: l => if c = 47 then [] :: cut l else (c :: (cut l).headD []) :: (cut l).tail
theorem cut_ne (l : List UInt8) : cut l ≠ [] := by
  cases l with
  | nil => simp [cut]
  | cons c l => unfold cut; split <;> simp
theorem cut_head (l : List UInt8) : cut l = (cut l).headD [] :: (cut l).tail := by
  cases h : cut l with
  | nil => exact absurd h (cut_ne l)
  | cons a r => simp
theorem cut_none {l : List UInt8} (h : 47 ∉ l) : cut l = [l] := by
  induction l with
  | nil => rfl
  | cons c l ih =>
    rw [List.mem_cons, not_or] at h
    rw [cut, if_neg (fun e => h.1 e.symm), ih h.2]
    rfl
theorem cut_app {l : List UInt8} (r : List UInt8) (h : 47 ∉ l) : cut (l ++ 47 :: r) = l :: cut r := by
  induction l with
  | nil => simp [cut]
  | cons c l ih =>
    rw [List.mem_cons, not_or] at h
    rw [List.cons_append, cut, if_neg (fun e => h.1 e.symm), ih h.2]
    rfl
theorem cut_no {l : List UInt8} : ∀ x ∈ cut l, 47 ∉ x := by
  induction l with
  | nil => simp [cut]
  | cons c l ih =>
    intro x hx
    unfold cut at hx
    split at hx
    · rcases List.mem_cons.1 hx with rfl | hx
      · simp
      · exact ih x hx
    · rename_i hc
      rw [cut_head l] at ih
      rcases List.mem_cons.1 hx with rfl | hx
      · rw [List.mem_cons, not_or]
        exact ⟨fun e => hc e.symm, ih _ (List.mem_cons_self ..)⟩
      · exact ih x (List.mem_cons_of_mem _ hx)
/-- names, a slash between each two -/
def joi : List (List UInt8) → List UInt8
  | [] => []
  | x :: r => if r = [] then x else x ++ 47 :: joi r
theorem joi_one (x : List UInt8) : joi [x] = x := by simp [joi]
theorem joi_cons {x : List UInt8} {r : List (List UInt8)} (h : r ≠ []) : joi (x :: r) = x ++ 47 :: joi r := by simp [joi, h]
theorem joi_cut (l : List UInt8) : joi (cut l) = l := by
  induction l with
  | nil => rfl
  | cons c l ih =>
    unfold cut
    split
    · rename_i h
      rw [joi_cons (cut_ne l), ih, h]; rfl
    · rw [cut_head l] at ih
      by_cases ht : (cut l).tail = []
      · rw [ht] at ih ⊢
        rw [joi_one] at ih ⊢
        rw [ih]
      · rw [joi_cons ht] at ih ⊢
        rw [List.cons_append, ih]
theorem cut_joi {ls : List (List UInt8)} (h0 : ls ≠ []) (h : ∀ x ∈ ls, 47 ∉ x) : cut (joi ls) = ls := by
  induction ls with
  | nil => exact absurd rfl h0
  | cons x r ih =>
    by_cases hr : r = []
    · subst hr
      rw [joi_one, cut_none (h x (List.mem_cons_self ..))]
    · rw [joi_cons hr, cut_app _ (h x (List.mem_cons_self ..)), ih hr (fun y hy => h y (List.mem_cons_of_mem _ hy))]
theorem joi_ne {ls : List (List UInt8)} (h0 : ls ≠ []) (h : ls.all nm = true) : joi ls ≠ [] := by
  cases ls with
  | nil => exact absurd rfl h0
  | cons x r =>
    rw [List.all_cons, Bool.and_eq_true] at h
    have := (nm_len h.1).1
    unfold joi
    split
    · intro e; rw [e] at this; simp at this
    · simp
theorem all_no {ls : List (List UInt8)} (h : ls.all nm = true) : ∀ x ∈ ls, 47 ∉ x := fun x hx => (nm_iff.1 (List.all_eq_true.1 h x hx)).2.2.2.2.1
/-- the names of a path, and which error -/
def spN (p : List UInt8) : List (List UInt8) := if 256 < p.length ∨ p = [47] ∨ p.head? ≠ some 47 ∨ (cut p.tail).all nm = false then [] else cut p.tail
def spE (p : List UInt8) : Int := if 256 < p.length then 2 else if p = [47] then 0 else if p.head? ≠ some 47 ∨ (cut p.tail).all nm = false then 10 else 0
/-- the path of names, and which error -/
def jnP (ls : List (List UInt8)) : List UInt8 := if ls.all nm = false ∨ 256 < (47 :: joi ls).length then [] else 47 :: joi ls
def jnE (ls : List (List UInt8)) : Int := if ls.all nm = false then 10 else if 256 < (47 :: joi ls).length then 2 else 0
theorem sp_err {p : List UInt8} (h : spE p ≠ 0) : spN p = [] := by
  unfold spE at h
  unfold spN
  by_cases h1 : 256 < p.length
  · rw [if_pos (.inl h1)]
  · by_cases h2 : p = [47]
    · rw [if_pos (.inr (.inl h2))]
    · by_cases h3 : p.head? ≠ some 47 ∨ (cut p.tail).all nm = false
      · rw [if_pos (.inr (.inr h3))]
      · rw [if_neg h1, if_neg h2, if_neg h3] at h
        exact absurd rfl h
theorem jn_err {ls : List (List UInt8)} (h : jnE ls ≠ 0) : jnP ls = [] := by
  unfold jnE at h
  unfold jnP
  by_cases h1 : ls.all nm = false
  · rw [if_pos (.inl h1)]
  · by_cases h2 : 256 < (47 :: joi ls).length
    · rw [if_pos (.inr h2)]
    · rw [if_neg h1, if_neg h2] at h
      exact absurd rfl h
/-- what a path is whose names there are -/
theorem sp_ok {p : List UInt8} (h : spE p = 0) : p.length ≤ 256 ∧ (spN p).all nm = true ∧ p = 47 :: joi (spN p) := by
  unfold spE at h
  unfold spN
  by_cases h1 : 256 < p.length
  · rw [if_pos h1] at h; exact absurd h (by decide)
  · rw [if_neg h1] at h
    refine ⟨by omega, ?_⟩
    by_cases h2 : p = [47]
    · rw [if_pos (.inr (.inl h2))]
      subst h2
      exact ⟨rfl, rfl⟩
    · rw [if_neg h2] at h
      by_cases h3 : p.head? ≠ some 47 ∨ (cut p.tail).all nm = false
      · rw [if_pos h3] at h; exact absurd h (by decide)
      · rw [if_neg (by rintro (h | h | h); exact h1 h; exact h2 h; exact h3 h), joi_cut]
        obtain ⟨h4, h5⟩ := not_or.1 h3
        have h4 : p.head? = some 47 := Classical.not_not.1 h4
        refine ⟨by simpa using h5, ?_⟩
        cases p with
        | nil => simp at h4
        | cons a p => simp at h4; subst h4; rfl
theorem jn_ok {ls : List (List UInt8)} (h : jnE ls = 0) : ls.all nm = true ∧ (47 :: joi ls).length ≤ 256 ∧ jnP ls = 47 :: joi ls := by
  unfold jnE at h
  unfold jnP
  by_cases h1 : ls.all nm = false
  · rw [if_pos h1] at h; exact absurd h (by decide)
  · by_cases h2 : 256 < (47 :: joi ls).length
    · rw [if_neg h1, if_pos h2] at h; exact absurd h (by decide)
    · rw [if_neg (by rintro (h | h); exact h1 h; exact h2 h)]
      exact ⟨by simpa using h1, by omega, rfl⟩
/-- the names of what names make -/
theorem sp_of {ls : List (List UInt8)} (h : ls.all nm = true) (hl : (47 :: joi ls).length ≤ 256) : spN (47 :: joi ls) = ls ∧ spE (47 :: joi ls) = 0 := by
  by_cases h0 : ls = []
  · subst h0
    exact ⟨rfl, rfl⟩
  · have hj := joi_ne h0 h
    have h2 : ¬ (47 :: joi ls) = [47] := fun e => hj (by injection e)
    have hc := cut_joi h0 (all_no h)
    unfold spN spE
    rw [if_neg (by rintro (e | e | e | e); omega; exact h2 e; exact e rfl; rw [List.tail_cons, hc, h] at e; cases e), if_neg (by omega), if_neg h2, if_neg (by rintro (e | e); exact e rfl; rw [List.tail_cons, hc, h] at e; cases e), List.tail_cons, hc]
    exact ⟨rfl, rfl⟩
theorem jn_of {ls : List (List UInt8)} (h : ls.all nm = true) (hl : (47 :: joi ls).length ≤ 256) : jnP ls = 47 :: joi ls ∧ jnE ls = 0 := by
  unfold jnP jnE
  rw [if_neg (by rintro (e | e); rw [h] at e; cases e; omega), if_neg (by rw [h]; decide), if_neg (by omega)]
  exact ⟨rfl, rfl⟩
theorem jn_sp {p : List UInt8} (h : spE p = 0) : jnP (spN p) = p ∧ jnE (spN p) = 0 := by
  obtain ⟨h1, h2, h3⟩ := sp_ok h
  have := jn_of h2 (by rw [← h3]; exact h1)
  rw [← h3] at this
  exact this
theorem sp_jn {ls : List (List UInt8)} (h : jnE ls = 0) : spN (jnP ls) = ls ∧ spE (jnP ls) = 0 := by
  obtain ⟨h1, h2, h3⟩ := jn_ok h
  rw [h3]
  exact sp_of h1 h2
/-- a name is a path of one -/
theorem one_name (s : List UInt8) : (spE (47 :: s) = 0 ∧ spN (47 :: s) = [s]) ↔ nm s = true := by
  constructor
  · rintro ⟨h1, h2⟩
    have := (sp_ok h1).2.1
    rw [h2] at this
    simpa using this
  · intro h
    have hl := nm_len h
    have := sp_of (ls := [s]) (by simpa using h) (by simp [joi_one]; omega)
    rw [joi_one] at this
    exact ⟨this.2, this.1⟩
theorem nm_slash_end (s : List UInt8) : nm (s ++ [47]) = false := by
  cases h : nm (s ++ [47]) with
  | false => rfl
  | true => exact absurd (by simp) (nm_iff.1 h).2.2.2.2.1
theorem nm_slash_head (s : List UInt8) : nm (47 :: s) = false := by
  cases h : nm (47 :: s) with
  | false => rfl
  | true => exact absurd (by simp) (nm_iff.1 h).2.2.2.2.1
theorem spN_len (p : List UInt8) : (spN p).length ≤ 256 := by
  by_cases h : spE p = 0
  · obtain ⟨h1, h2, h3⟩ := sp_ok h
    have key : ∀ ls : List (List UInt8), ls.all nm = true → ls.length ≤ (joi ls).length := by
      intro ls
      induction ls with
      | nil => intro _; exact Nat.le_refl _
      | cons x r ih =>
        intro ha
        rw [List.all_cons, Bool.and_eq_true] at ha
        have hx := (nm_len ha.1).1
        have := ih ha.2
        unfold joi
        split
        · rename_i e; subst e; simpa using hx
        · simp; omega
    have := key _ h2
    rw [h3] at h1
    simp only [List.length_cons] at h1
    omega
  · rw [sp_err h]; simp
end Go.Proofs.YtjkmfonngbendaaGreatDoor.Ph
/- Plain mathematics of inodes and keys as bytes: what is written is taken again; two ways of asking whether bytes are one's are the same. No walk here. -/
namespace Go.Proofs.YtjkmfonngbendaaGreatDoor.Ino
set_option linter.unusedVariables false
set_option linter.unusedSimpArgs false
open Pk (be num be_length num_be num_lt num_snoc bs bs_size nB nE numOk numOk_iff tN tR tE uN uOk uT uR uE xB xE nB_ok tN_back tR_back uT_back uR_back uE_back xB_size be_cons)
theorem be_num (l : List UInt8) : be l.length (num l) = l := by
  have key : ∀ r : List UInt8, be r.reverse.length (num r.reverse) = r.reverse := by
    intro r
    induction r with
    | nil => rfl
    | cons b r ih =>
      rw [List.reverse_cons, num_snoc, List.length_append, List.length_singleton, be]
      have hb := b.toNat_lt
      rw [show (num r.reverse * 256 + b.toNat) / 256 = num r.reverse by omega, ih]
      congr 2
      apply UInt8.toNat_inj.1
      rw [UInt8.toNat_ofNat']
      omega
  have := key l.reverse
  rwa [List.reverse_reverse] at this
theorem numOk_of {n k : Nat} (h1 : 1 ≤ k) (h2 : k ≤ 8) (h : n < 256 ^ k) : numOk n (k : Int) = true := numOk_iff.2 ⟨by omega, by omega, by simpa using h⟩
theorem nB_of {n k : Nat} (h1 : 1 ≤ k) (h2 : k ≤ 8) (h : n < 256 ^ k) : nB n (k : Int) = bs (be k n) := by rw [nB_ok (numOk_of h1 h2 h)]; simp
theorem tR_of (s : ByteArray) (k : Nat) (h1 : 1 ≤ k) (h2 : k ≤ 8) (h : k ≤ s.size) : tR s (k : Int) = s.extract k s.size := by
  unfold tR
  rw [if_pos ⟨by omega, by omega, by simpa using h⟩]; simp
theorem tN_of (s : ByteArray) (k : Nat) (h1 : 1 ≤ k) (h2 : k ≤ 8) (h : k ≤ s.size) : tN s (k : Int) = (num (s.data.toList.take k) : Nat) := by
  unfold tN
  rw [if_pos ⟨by omega, by omega, by simpa using h⟩]; simp
theorem tN_lt (s : ByteArray) (k : Nat) (h2 : k ≤ 8) : 0 ≤ tN s (k : Int) ∧ tN s (k : Int) < (256 ^ k : Nat) := by
  unfold tN
  split
  · have h := num_lt (s.data.toList.take k)
    have h3 : 256 ^ (s.data.toList.take k).length ≤ 256 ^ k := Nat.pow_le_pow_right (by omega) (by rw [List.length_take]; omega)
    refine ⟨by omega, ?_⟩
    have e : ((k : Int)).toNat = k := by simp
    rw [e]
    omega
  · have : 0 < 256 ^ k := Nat.pow_pos (by omega)
    omega
/-- bytes are the number's that they begin with, and what is behind -/
theorem whole_cut (s : ByteArray) (k : Nat) (h1 : 1 ≤ k) (h2 : k ≤ 8) (h : k ≤ s.size) : bs (be k (tN s (k : Int)).toNat) ++ tR s (k : Int) = s := by
  rw [tN_of s k h1 h2 h, tR_of s k h1 h2 h, Int.toNat_natCast]
  have e : (s.data.toList.take k).length = k := by rw [List.length_take, Array.length_toList, show s.data.size = s.size from rfl]; omega
  have e2 := be_num (s.data.toList.take k)
  rw [e] at e2
  rw [e2]
  apply ByteArray.ext
  rw [ByteArray.data_append, ByteArray.data_extract]
  apply Array.toList_inj.1
  rw [Array.toList_append]
  show List.take k s.data.toList ++ _ = _
  rw [Array.toList_extract, List.extract_eq_take_drop, List.take_of_length_le (i := s.size - k) (by rw [List.length_drop, Array.length_toList]; exact Nat.le_refl _), List.take_append_drop]
theorem tR_size (s : ByteArray) (k : Nat) (h1 : 1 ≤ k) (h2 : k ≤ 8) (h : k ≤ s.size) : (tR s (k : Int)).size = s.size - k := by
  rw [tR_of s k h1 h2 h, ByteArray.size_extract]; omega
theorem tR_le (s : ByteArray) (k : Int) : (tR s k).size ≤ s.size := by
  unfold tR
  split
  · rw [ByteArray.size_extract]; omega
  · exact Nat.zero_le _
theorem tR_short (s : ByteArray) (k : Nat) (h : s.size < k) : tR s (k : Int) = ByteArray.empty ∧ tN s (k : Int) = 0 := by
  unfold tR tN
  have : ¬ (1 ≤ (k : Int) ∧ (k : Int) ≤ 8 ∧ (k : Int).toNat ≤ s.size) := by rintro ⟨_, _, h3⟩; simp at h3; omega
  rw [if_neg this, if_neg this]
  exact ⟨rfl, rfl⟩
theorem whole_text {s : ByteArray} (h1 : uE s = 0) (h2 : uR s = ByteArray.empty) : xB (uT s) = s ∧ (uT s).size ≤ 65535 := by
  have hk : uOk s = true := by
    cases h : uOk s with
    | true => rfl
    | false => unfold uE at h1; rw [if_neg (by rw [h]; decide)] at h1; exact absurd h1 (by decide)
  have hk2 := hk
  unfold uOk at hk2
  rw [decide_eq_true_eq] at hk2
  unfold uR at h2
  rw [if_pos hk] at h2
  have h3 := congrArg ByteArray.size h2
  rw [ByteArray.size_extract, ByteArray.size_extract] at h3
  change _ = 0 at h3
  have hN : uN s = s.size - 2 := by omega
  have hT : uT s = s.extract 2 s.size := by
    unfold uT
    rw [if_pos hk, hN, ByteArray.extract_extract]
    congr 1
    omega
  have hsz : (uT s).size = uN s := by rw [hT, ByteArray.size_extract, hN]; omega
  have hlt := num_lt (s.data.toList.take 2)
  have hl2 : (s.data.toList.take 2).length = 2 := by rw [List.length_take, Array.length_toList, show s.data.size = s.size from rfl]; omega
  rw [hl2] at hlt
  have hle : (uT s).size ≤ 65535 := by rw [hsz]; unfold uN; omega
  refine ⟨?_, hle⟩
  rw [xB, if_pos hle, hsz]
  have e2 := be_num (s.data.toList.take 2)
  rw [hl2] at e2
  unfold uN
  rw [e2, hT]
  apply ByteArray.ext
  rw [ByteArray.data_append, ByteArray.data_extract]
  apply Array.toList_inj.1
  rw [Array.toList_append]
  show List.take 2 s.data.toList ++ _ = _
  rw [Array.toList_extract, List.extract_eq_take_drop, List.take_of_length_le (i := s.size - 2) (by rw [List.length_drop, Array.length_toList]; exact Nat.le_refl _), List.take_append_drop]
/-- an inode, as plain data -/
structure In where
  K : Nat
  M : Nat
  L : Nat
  S : Nat
  T : ByteArray
def In.lim (n : In) : Prop := n.K < 256 ∧ n.M < 65536 ∧ n.L < 4294967296 ∧ n.S < 4294967296
def zIn : In := ⟨0, 0, 0, 0, ByteArray.empty⟩
def tgt (t : ByteArray) : Bool := decide (1 ≤ t.size) && decide (t.size ≤ 64) && !t.data.toList.contains 0
def okI (n : In) : Bool :=
  if n.K = 1 then decide (n.L = 1) && decide (n.S = 0) && decide (n.T.size = 0)
  else if n.K = 2 then decide (1 ≤ n.L) && decide (n.S ≤ 65536) && decide (n.T.size = 0)
  else if n.K = 3 then decide (1 ≤ n.L) && tgt n.T && decide (n.S = n.T.size) else false
theorem okI_iff {n : In} : okI n = true ↔ (n.K = 1 ∧ n.L = 1 ∧ n.S = 0 ∧ n.T.size = 0) ∨ (n.K = 2 ∧ 1 ≤ n.L ∧ n.S ≤ 65536 ∧ n.T.size = 0) ∨ (n.K = 3 ∧ 1 ≤ n.L ∧ tgt n.T = true ∧ n.S = n.T.size) := by
  unfold okI
  by_cases h1 : n.K = 1
  · rw [if_pos h1]
    simp only [Bool.and_eq_true, decide_eq_true_eq]
    omega
  · rw [if_neg h1]
    by_cases h2 : n.K = 2
    · rw [if_pos h2]
      simp only [Bool.and_eq_true, decide_eq_true_eq]
      omega
    · rw [if_neg h2]
      by_cases h3 : n.K = 3
      · rw [if_pos h3]
        simp only [Bool.and_eq_true, decide_eq_true_eq]
        simp [h1, h2, h3, and_assoc]
      · rw [if_neg h3]
        simp [h1, h2, h3]
theorem tgt_size {t : ByteArray} (h : tgt t = true) : 1 ≤ t.size ∧ t.size ≤ 64 := by
  unfold tgt at h
  simp only [Bool.and_eq_true, decide_eq_true_eq] at h
  exact h.1
theorem okI_size {n : In} (h : okI n = true) : n.T.size ≤ 64 ∧ n.K < 4 := by
  rcases okI_iff.1 h with h | h | h
  · omega
  · omega
  · have := tgt_size h.2.2.1; omega
def wrI (n : In) : ByteArray := bs (be 1 n.K) ++ bs (be 2 n.M) ++ bs (be 4 n.L) ++ bs (be 4 n.S) ++ xB n.T
def tkI (s : ByteArray) : In := ⟨(tN s 1).toNat, (tN (tR s 1) 2).toNat, (tN (tR (tR s 1) 2) 4).toNat, (tN (tR (tR (tR s 1) 2) 4) 4).toNat, uT (tR (tR (tR (tR s 1) 2) 4) 4)⟩
theorem tN1 (s : ByteArray) : 0 ≤ tN s 1 ∧ tN s 1 < 256 := tN_lt s 1 (by omega)
theorem tN2 (s : ByteArray) : 0 ≤ tN s 2 ∧ tN s 2 < 65536 := tN_lt s 2 (by omega)
theorem tN4 (s : ByteArray) : 0 ≤ tN s 4 ∧ tN s 4 < 4294967296 := tN_lt s 4 (by omega)
theorem tkI_lim (s : ByteArray) : (tkI s).lim := by
  have h1 := tN1 s
  have h2 := tN2 (tR s 1)
  have h3 := tN4 (tR (tR s 1) 2)
  have h4 := tN4 (tR (tR (tR s 1) 2) 4)
  refine ⟨?_, ?_, ?_, ?_⟩ <;> simp only [tkI] <;> omega
theorem wrI_eq (n : In) : wrI n = bs (be 1 n.K) ++ (bs (be 2 n.M) ++ (bs (be 4 n.L) ++ (bs (be 4 n.S) ++ xB n.T))) := by
  unfold wrI
  simp only [ByteArray.append_assoc]
theorem num_back (k n : Nat) (h1 : 1 ≤ k) (h2 : k ≤ 8) (h : n < 256 ^ k) (r : ByteArray) : tN (bs (be k n) ++ r) (k : Int) = n ∧ tR (bs (be k n) ++ r) (k : Int) = r := by
  have h3 := tN_back (numOk_of h1 h2 h) r
  have h4 := tR_back (numOk_of h1 h2 h) r
  rw [nB_of h1 h2 h] at h3 h4
  exact ⟨h3, h4⟩
theorem rest_back {n : In} (h : n.lim) : tR (wrI n) 1 = bs (be 2 n.M) ++ (bs (be 4 n.L) ++ (bs (be 4 n.S) ++ xB n.T)) ∧ tR (tR (wrI n) 1) 2 = bs (be 4 n.L) ++ (bs (be 4 n.S) ++ xB n.T) ∧ tR (tR (tR (wrI n) 1) 2) 4 = bs (be 4 n.S) ++ xB n.T ∧ tR (tR (tR (tR (wrI n) 1) 2) 4) 4 = xB n.T := by
  obtain ⟨l1, l2, l3, l4⟩ := h
  have a1 : tR (wrI n) 1 = bs (be 2 n.M) ++ (bs (be 4 n.L) ++ (bs (be 4 n.S) ++ xB n.T)) := by rw [wrI_eq]; exact (num_back 1 n.K (by omega) (by omega) (by simpa using l1) _).2
  have a2 : tR (tR (wrI n) 1) 2 = bs (be 4 n.L) ++ (bs (be 4 n.S) ++ xB n.T) := by rw [a1]; exact (num_back 2 n.M (by omega) (by omega) (by simpa using l2) _).2
  have a3 : tR (tR (tR (wrI n) 1) 2) 4 = bs (be 4 n.S) ++ xB n.T := by rw [a2]; exact (num_back 4 n.L (by omega) (by omega) (by simpa using l3) _).2
  have a4 : tR (tR (tR (tR (wrI n) 1) 2) 4) 4 = xB n.T := by rw [a3]; exact (num_back 4 n.S (by omega) (by omega) (by simpa using l4) _).2
  exact ⟨a1, a2, a3, a4⟩
theorem append_none (a : ByteArray) : a ++ ByteArray.empty = a := by
  apply ByteArray.ext
  rw [ByteArray.data_append]
  exact Array.append_empty
theorem tk_wr {n : In} (h : n.lim) (ht : n.T.size ≤ 65535) : tkI (wrI n) = n := by
  obtain ⟨a1, a2, a3, a4⟩ := rest_back h
  obtain ⟨l1, l2, l3, l4⟩ := h
  have b1 : tN (wrI n) 1 = n.K := by rw [wrI_eq]; exact (num_back 1 n.K (by omega) (by omega) (by simpa using l1) _).1
  have b2 : tN (tR (wrI n) 1) 2 = n.M := by rw [a1]; exact (num_back 2 n.M (by omega) (by omega) (by simpa using l2) _).1
  have b3 : tN (tR (tR (wrI n) 1) 2) 4 = n.L := by rw [a2]; exact (num_back 4 n.L (by omega) (by omega) (by simpa using l3) _).1
  have b4 : tN (tR (tR (tR (wrI n) 1) 2) 4) 4 = n.S := by rw [a3]; exact (num_back 4 n.S (by omega) (by omega) (by simpa using l4) _).1
  have b5 : uT (tR (tR (tR (tR (wrI n) 1) 2) 4) 4) = n.T := by
    rw [a4]
    have := uT_back ht ByteArray.empty
    rwa [append_none] at this
  unfold tkI
  rw [b1, b2, b3, b4, b5]
  simp
/-- what bytes are, and which error -/
def deI (s : ByteArray) : In := if okI (tkI s) = true ∧ wrI (tkI s) = s then tkI s else zIn
def deIE (s : ByteArray) : Int := if okI (tkI s) = true ∧ wrI (tkI s) = s then 0 else 4
/-- how the document asks -/
theorem ask_same (s : ByteArray) : (okI (tkI s) = true ∧ wrI (tkI s) = s) ↔ (11 ≤ s.size ∧ uE (tR (tR (tR (tR s 1) 2) 4) 4) = 0 ∧ uR (tR (tR (tR (tR s 1) 2) 4) 4) = ByteArray.empty ∧ okI (tkI s) = true) := by
  constructor
  · rintro ⟨h1, h2⟩
    have hl := tkI_lim s
    have ht := (okI_size h1).1
    obtain ⟨_, _, _, a4⟩ := rest_back hl
    have hsz := congrArg ByteArray.size h2
    rw [wrI] at hsz
    simp only [ByteArray.size_append, bs_size, be_length] at hsz
    rw [h2] at a4
    have c1 := uE_back (t := (tkI s).T) (by omega) ByteArray.empty
    have c2 := uR_back (t := (tkI s).T) (by omega) ByteArray.empty
    rw [append_none] at c1 c2
    rw [a4]
    exact ⟨by omega, c1, c2, h1⟩
  · rintro ⟨h0, h1, h2, h3⟩
    refine ⟨h3, ?_⟩
    clear h3
    rw [wrI_eq]
    simp only [tkI]
    have e1 : bs (be 1 (tN s 1).toNat) ++ tR s 1 = s := whole_cut s 1 (by omega) (by omega) (by omega)
    have z1 : (tR s 1).size = s.size - 1 := tR_size s 1 (by omega) (by omega) (by omega)
    generalize tR s 1 = r1 at *
    have e2 : bs (be 2 (tN r1 2).toNat) ++ tR r1 2 = r1 := whole_cut r1 2 (by omega) (by omega) (by omega)
    have z2 : (tR r1 2).size = r1.size - 2 := tR_size r1 2 (by omega) (by omega) (by omega)
    generalize tR r1 2 = r2 at *
    have e3 : bs (be 4 (tN r2 4).toNat) ++ tR r2 4 = r2 := whole_cut r2 4 (by omega) (by omega) (by omega)
    have z3 : (tR r2 4).size = r2.size - 4 := tR_size r2 4 (by omega) (by omega) (by omega)
    generalize tR r2 4 = r3 at *
    have e4 : bs (be 4 (tN r3 4).toNat) ++ tR r3 4 = r3 := whole_cut r3 4 (by omega) (by omega) (by omega)
    generalize tR r3 4 = r4 at *
    have e5 := (whole_text h1 h2).1
    rw [e5, e4, e3, e2, e1]
theorem deI_back {n : In} (h : n.lim) (hk : okI n = true) : deI (wrI n) = n ∧ deIE (wrI n) = 0 := by
  have e := tk_wr h (by have := (okI_size hk).1; omega)
  unfold deI deIE
  rw [e, if_pos ⟨hk, rfl⟩, if_pos ⟨hk, rfl⟩]
  exact ⟨rfl, rfl⟩
theorem deI_ok {s : ByteArray} (h : deIE s = 0) : okI (deI s) = true ∧ wrI (deI s) = s ∧ (deI s).lim := by
  unfold deIE at h
  unfold deI
  by_cases hc : okI (tkI s) = true ∧ wrI (tkI s) = s
  · rw [if_pos hc]
    exact ⟨hc.1, hc.2, tkI_lim s⟩
  · rw [if_neg hc] at h; exact absurd h (by decide)
theorem wrI_size (n : In) (h : n.T.size ≤ 65535) : (wrI n).size = 13 + n.T.size := by
  unfold wrI
  simp only [ByteArray.size_append, bs_size, be_length, xB_size h]; omega
end Go.Proofs.YtjkmfonngbendaaGreatDoor.Ino
/- Plain mathematics of keys as bytes. No walk here. -/
namespace Go.Proofs.YtjkmfonngbendaaGreatDoor.Ino
set_option linter.unusedVariables false
set_option linter.unusedSimpArgs false
open Pk (be num be_length num_be num_lt num_snoc bs bs_size nB nE numOk numOk_iff tN tR tE uN uOk uT uR uE xB xE nB_ok tN_back tR_back uT_back uR_back uE_back xB_size be_cons bs_append bytesLess_be bs_data bs_list)
open Ph (nm nb)
/-- a key, as plain data -/
structure Ky where
  K : Nat
  I : Nat
  N : ByteArray
  C : Nat
def Ky.lim (k : Ky) : Prop := k.K < 256 ∧ k.I < 4294967296 ∧ k.C < 4294967296
def zKy : Ky := ⟨0, 0, ByteArray.empty, 0⟩
def lt (K : Nat) : List UInt8 := if K = 1 then [105] else if K = 2 then [100] else if K = 3 then [99] else if K = 4 then [120] else []
def okK (k : Ky) : Bool :=
  decide (1 ≤ k.I) && (if k.K = 1 then decide (k.N.size = 0) && decide (k.C = 0)
    else if k.K = 2 ∨ k.K = 4 then nb k.N && decide (k.C = 0)
    else if k.K = 3 then decide (k.N.size = 0) && decide (k.C < 512) else false)
theorem okK_iff {k : Ky} : okK k = true ↔ 1 ≤ k.I ∧ ((k.K = 1 ∧ k.N.size = 0 ∧ k.C = 0) ∨ ((k.K = 2 ∨ k.K = 4) ∧ nb k.N = true ∧ k.C = 0) ∨ (k.K = 3 ∧ k.N.size = 0 ∧ k.C < 512)) := by
  unfold okK
  by_cases h1 : k.K = 1
  · simp [h1]
  · by_cases h2 : k.K = 2 ∨ k.K = 4
    · rw [if_neg h1, if_pos h2]
      have h3 : ¬ k.K = 3 := by omega
      simp [h1, h2, h3]
    · by_cases h3 : k.K = 3
      · simp [h3]
      · rw [if_neg h1, if_neg h2, if_neg h3]
        simp [h1, h2, h3]
def pfx (K I : Nat) : ByteArray := if lt K = [] then ByteArray.empty else bs (lt K) ++ bs (be 4 I)
def wrK (k : Ky) : ByteArray := if k.K = 3 then pfx k.K k.I ++ k.N ++ bs (be 4 k.C) else pfx k.K k.I ++ k.N
def kd (s : ByteArray) : Nat := match s.data.toList with
  | c :: _ => if c = 105 then 1 else if c = 100 then 2 else if c = 99 then 3 else if c = 120 then 4 else 0
  | [] => 0
def rs (s : ByteArray) : ByteArray := if kd s = 0 then s else s.extract 1 s.size
def tkK (s : ByteArray) : Ky := ⟨kd s, (tN (rs s) 4).toNat, if kd s = 2 ∨ kd s = 4 then tR (rs s) 4 else ByteArray.empty, if kd s = 3 then (tN (tR (rs s) 4) 4).toNat else 0⟩
def deK (s : ByteArray) : Ky := if okK (tkK s) = true ∧ wrK (tkK s) = s then tkK s else zKy
def deKE (s : ByteArray) : Int := if okK (tkK s) = true ∧ wrK (tkK s) = s then 0 else 4
theorem tkK_lim (s : ByteArray) : (tkK s).lim := by
  have h3 := tN4 (rs s)
  have h4 := tN4 (tR (rs s) 4)
  refine ⟨?_, ?_, ?_⟩
  · show kd s < 256
    unfold kd
    split
    · repeat' split
      all_goals omega
    · omega
  · simp only [tkK]; omega
  · simp only [tkK]
    split <;> omega
theorem kd_app {K : Nat} (h : lt K ≠ []) (r : ByteArray) : kd (bs (lt K) ++ r) = K ∧ rs (bs (lt K) ++ r) = r ∧ (lt K).length = 1 := by
  have key : ∀ c : UInt8, (bs [c] ++ r).data.toList = c :: r.data.toList := fun c => by rw [ByteArray.data_append, Array.toList_append]; rfl
  have cut : ∀ c : UInt8, (bs [c] ++ r).extract 1 (bs [c] ++ r).size = r := fun c => ByteArray.extract_append_eq_right (by rw [bs_size]; rfl) (by rw [ByteArray.size_append])
  have e : (K = 1 ∧ lt K = [105]) ∨ (K = 2 ∧ lt K = [100]) ∨ (K = 3 ∧ lt K = [99]) ∨ (K = 4 ∧ lt K = [120]) := by
    unfold lt at h ⊢
    by_cases h1 : K = 1
    · simp [h1]
    · by_cases h2 : K = 2
      · simp [h2]
      · by_cases h3 : K = 3
        · simp [h3]
        · by_cases h4 : K = 4
          · simp [h4]
          · simp [h1, h2, h3, h4] at h
  have go : ∀ c : UInt8, lt K = [c] → (kd (bs [c] ++ r) = K) → K ≠ 0 → kd (bs (lt K) ++ r) = K ∧ rs (bs (lt K) ++ r) = r ∧ (lt K).length = 1 := by
    intro c e hk h0
    rw [e]
    refine ⟨hk, ?_, rfl⟩
    unfold rs
    rw [hk, if_neg h0, cut]
  rcases e with ⟨rfl, e⟩ | ⟨rfl, e⟩ | ⟨rfl, e⟩ | ⟨rfl, e⟩
  · exact go 105 e (by unfold kd; rw [key]; rfl) (by omega)
  · exact go 100 e (by unfold kd; rw [key]; rfl) (by omega)
  · exact go 99 e (by unfold kd; rw [key]; rfl) (by omega)
  · exact go 120 e (by unfold kd; rw [key]; rfl) (by omega)
theorem lt_of {K : Nat} (h : 1 ≤ K) (h2 : K ≤ 4) : lt K ≠ [] := by
  rcases (show K = 1 ∨ K = 2 ∨ K = 3 ∨ K = 4 by omega) with rfl | rfl | rfl | rfl <;> decide
theorem okK_kind {k : Ky} (h : okK k = true) : 1 ≤ k.K ∧ k.K ≤ 4 := by
  rcases (okK_iff.1 h).2 with h | h | h <;> omega
theorem nb_size {s : ByteArray} (h : nb s = true) : 1 ≤ s.size ∧ s.size ≤ 24 := by
  have := Ph.nm_len h
  rw [Array.length_toList] at this
  exact this
theorem size0 {s : ByteArray} (h : s.size = 0) : s = ByteArray.empty := by
  apply ByteArray.ext
  exact Array.eq_empty_of_size_eq_zero h
theorem wrK_eq {k : Ky} (h : okK k = true) : wrK k = bs (lt k.K) ++ (bs (be 4 k.I) ++ (if k.K = 3 then bs (be 4 k.C) else k.N)) := by
  unfold wrK pfx
  obtain ⟨h1, h2⟩ := okK_kind h
  rw [if_neg (lt_of h1 h2)]
  by_cases h3 : k.K = 3
  · have hn : k.N.size = 0 := by rcases (okK_iff.1 h).2 with h | h | h <;> omega
    rw [if_pos h3, if_pos h3, size0 hn, append_none, ByteArray.append_assoc]
  · rw [if_neg h3, if_neg h3, ByteArray.append_assoc]
theorem tk_wrK {k : Ky} (hl : k.lim) (h : okK k = true) : tkK (wrK k) = k := by
  have hk := okK_kind h
  have e := wrK_eq h
  have hp := kd_app (lt_of hk.1 hk.2) (bs (be 4 k.I) ++ (if k.K = 3 then bs (be 4 k.C) else k.N))
  rw [← e] at hp
  have hn := num_back 4 k.I (by omega) (by omega) (by simpa using hl.2.1) (if k.K = 3 then bs (be 4 k.C) else k.N)
  have hc := num_back 4 k.C (by omega) (by omega) (by simpa using hl.2.2) ByteArray.empty
  rw [append_none] at hc
  unfold tkK
  rw [hp.1, hp.2.1, show tN (bs (be 4 k.I) ++ (if k.K = 3 then bs (be 4 k.C) else k.N)) 4 = _ from hn.1, show tR (bs (be 4 k.I) ++ (if k.K = 3 then bs (be 4 k.C) else k.N)) 4 = _ from hn.2]
  have hb := (okK_iff.1 h).2
  obtain ⟨K, I, N, C⟩ := k
  simp only at hb hc ⊢
  by_cases h3 : K = 3
  · have hn0 : N.size = 0 := by rcases hb with h | h | h <;> omega
    rw [if_pos h3, if_neg (by omega), if_pos h3, show tN (bs (be 4 C)) 4 = _ from hc.1, size0 hn0]
    simp
  · rw [if_neg h3, if_neg h3]
    have hc0 : C = 0 := by rcases hb with h | h | h <;> omega
    by_cases h24 : K = 2 ∨ K = 4
    · rw [if_pos h24, hc0]; simp
    · rw [if_neg h24, hc0]
      have hn0 : N.size = 0 := by rcases hb with h | h | h <;> omega
      rw [size0 hn0]; simp
theorem deK_back {k : Ky} (hl : k.lim) (hk : okK k = true) : deK (wrK k) = k ∧ deKE (wrK k) = 0 := by
  have e := tk_wrK hl hk
  unfold deK deKE
  rw [e, if_pos ⟨hk, rfl⟩, if_pos ⟨hk, rfl⟩]
  exact ⟨rfl, rfl⟩
theorem deK_ok {s : ByteArray} (h : deKE s = 0) : okK (deK s) = true ∧ wrK (deK s) = s ∧ (deK s).lim := by
  unfold deKE at h
  unfold deK
  by_cases hc : okK (tkK s) = true ∧ wrK (tkK s) = s
  · rw [if_pos hc]
    exact ⟨hc.1, hc.2, tkK_lim s⟩
  · rw [if_neg hc] at h; exact absurd h (by decide)
/-- how the document asks: its key has what is behind as its name -/
def rkN (s : ByteArray) : Ky := ⟨kd s, (tN (s.extract 1 s.size) 4).toNat, if kd s = 3 then ByteArray.empty else tR (s.extract 1 s.size) 4, if kd s = 3 then (tN (tR (s.extract 1 s.size) 4) 4).toNat else 0⟩
def rkB (s : ByteArray) : Prop := 5 ≤ s.size ∧ kd s ≠ 0 ∧ (kd s = 3 → tE (tR (s.extract 1 s.size) 4) 4 = 0 ∧ tR (tR (s.extract 1 s.size) 4) 4 = ByteArray.empty) ∧ okK (rkN s) = true
theorem head_cut {s : ByteArray} (h : kd s ≠ 0) : bs (lt (kd s)) ++ s.extract 1 s.size = s ∧ 1 ≤ s.size := by
  obtain ⟨c, r, hc⟩ : ∃ c r, s.data.toList = c :: r := by
    cases e : s.data.toList with
    | nil => unfold kd at h; rw [e] at h; exact absurd rfl h
    | cons c r => exact ⟨c, r, rfl⟩
  have hsz : s.size = r.length + 1 := by
    show s.data.size = _
    rw [← Array.length_toList, hc]; rfl
  refine ⟨?_, by omega⟩
  have hlt : lt (kd s) = [c] := by
    unfold kd at h ⊢
    rw [hc] at h ⊢
    simp only at h ⊢
    by_cases h1 : c = 105
    · rw [if_pos h1, h1]; rfl
    · rw [if_neg h1] at h ⊢
      by_cases h2 : c = 100
      · rw [if_pos h2, h2]; rfl
      · rw [if_neg h2] at h ⊢
        by_cases h3 : c = 99
        · rw [if_pos h3, h3]; rfl
        · rw [if_neg h3] at h ⊢
          by_cases h4 : c = 120
          · rw [if_pos h4, h4]; rfl
          · rw [if_neg h4] at h; exact absurd rfl h
  rw [hlt]
  apply ByteArray.ext
  rw [ByteArray.data_append, ByteArray.data_extract]
  apply Array.toList_inj.1
  rw [Array.toList_append, Array.toList_extract, List.extract_eq_take_drop, hc]
  show [c] ++ _ = _
  rw [hsz]
  simp
theorem kd_le (s : ByteArray) : kd s ≤ 4 := by
  unfold kd
  split
  · repeat' split
    all_goals omega
  · omega
theorem askK (s : ByteArray) : ((okK (tkK s) = true ∧ wrK (tkK s) = s) ↔ rkB s) ∧ (rkB s → rkN s = tkK s) := by
  have hle := kd_le s
  by_cases h0 : kd s = 0
  · have hno : ¬ okK (tkK s) = true := fun h => by
      have := (okK_kind h).1
      simp only [tkK] at this
      omega
    refine ⟨⟨fun h => absurd h.1 hno, fun h => absurd h0 h.2.1⟩, fun h => absurd h0 h.2.1⟩
  · obtain ⟨hs, hs1⟩ := head_cut h0
    have hrs : rs s = s.extract 1 s.size := by unfold rs; rw [if_neg h0]
    have hsz : (s.extract 1 s.size).size = s.size - 1 := by rw [ByteArray.size_extract]; omega
    obtain ⟨r, hr⟩ : ∃ r, s.extract 1 s.size = r := ⟨_, rfl⟩
    rw [hr] at hs hrs hsz
    have fwd : ∀ hb : rkB s, rkN s = tkK s := by
      rintro ⟨h5, _, h3, hk⟩
      rw [hr] at h3
      have hb := (okK_iff.1 hk).2
      unfold rkN at hb ⊢
      unfold tkK
      rw [hr] at hb ⊢
      rw [hrs]
      simp only at hb
      by_cases k3 : kd s = 3
      · rw [if_pos k3, if_pos k3, if_neg (by omega)]
      · rw [if_neg k3, if_neg k3] at hb ⊢
        by_cases k24 : kd s = 2 ∨ kd s = 4
        · rw [if_pos k24]
        · rw [if_neg k24]
          have : (tR r 4).size = 0 := by rcases hb with h | h | h <;> omega
          rw [size0 this]
    refine ⟨⟨?_, ?_⟩, fwd⟩
    · rintro ⟨hk, hw⟩
      have hw2 := wrK_eq hk
      rw [hw] at hw2
      have hK : (tkK s).K = kd s := rfl
      have hI : (tkK s).I = (tN r 4).toNat := by simp only [tkK, hrs]
      rw [hK] at hw2
      have hz := congrArg ByteArray.size hw2
      have hl1 := (kd_app (lt_of (by omega) hle) ByteArray.empty).2.2
      simp only [ByteArray.size_append, bs_size, be_length, hl1] at hz
      have h5 : 5 ≤ s.size := by omega
      have hr2 : r = bs (be 4 (tkK s).I) ++ (if kd s = 3 then bs (be 4 (tkK s).C) else (tkK s).N) := by
        have e1 := wrK_eq hk
        rw [hw, hK] at e1
        have e2 := (kd_app (lt_of (by omega) hle) (bs (be 4 (tkK s).I) ++ (if kd s = 3 then bs (be 4 (tkK s).C) else (tkK s).N))).2.1
        rw [← e1, hrs] at e2
        exact e2
      have hrr : tR r 4 = (if kd s = 3 then bs (be 4 (tkK s).C) else (tkK s).N) := by
        have := (num_back 4 (tkK s).I (by omega) (by omega) (by simpa using (tkK_lim s).2.1) (if kd s = 3 then bs (be 4 (tkK s).C) else (tkK s).N)).2
        rw [← hr2] at this
        exact this
      have h3 : kd s = 3 → tE (tR (s.extract 1 s.size) 4) 4 = 0 ∧ tR (tR (s.extract 1 s.size) 4) 4 = ByteArray.empty := by
        intro k3
        rw [hr, hrr, if_pos k3]
        have a := num_back 4 (tkK s).C (by omega) (by omega) (by simpa using (tkK_lim s).2.2) ByteArray.empty
        rw [append_none] at a
        refine ⟨?_, a.2⟩
        unfold tE
        rw [if_pos (by decide), if_pos (by rw [bs_size, be_length]; decide)]
      have he : rkN s = tkK s := by
        unfold rkN
        rw [hr]
        have hb := (okK_iff.1 hk).2
        rw [hK] at hb
        unfold tkK at hb hrr ⊢
        rw [hrs] at hb hrr ⊢
        simp only at hb hrr
        by_cases k3 : kd s = 3
        · rw [if_pos k3, if_pos k3, if_neg (by omega)]
        · rw [if_neg k3, if_neg k3]
          rw [if_neg k3] at hrr
          rw [← hrr]
      exact ⟨h5, h0, h3, by rw [he]; exact hk⟩
    · intro hb
      have he := fwd hb
      obtain ⟨h5, _, h3, hk⟩ := hb
      rw [he] at hk
      refine ⟨hk, ?_⟩
      rw [wrK_eq hk]
      have e1 := whole_cut r 4 (by omega) (by omega) (by omega)
      have hK : (tkK s).K = kd s := rfl
      have hI : (tkK s).I = (tN r 4).toNat := by simp only [tkK, hrs]
      rw [hK, hI]
      have tail : (if kd s = 3 then bs (be 4 (tkK s).C) else (tkK s).N) = tR r 4 := by
        by_cases k3 : kd s = 3
        · rw [if_pos k3]
          rw [hr] at h3
          obtain ⟨h31, h32⟩ := h3 k3
          have hsz4 : 4 ≤ (tR r 4).size := by
            rcases Nat.lt_or_ge (tR r 4).size 4 with h | h
            · unfold tE at h31
              rw [if_pos (by decide), if_neg (by simp; omega)] at h31
              exact absurd h31 (by decide)
            · exact h
          have e2 := whole_cut (tR r 4) 4 (by omega) (by omega) hsz4
          rw [show tR (tR r 4) ((4 : Nat) : Int) = ByteArray.empty from h32, append_none] at e2
          have hC : (tkK s).C = (tN (tR r 4) 4).toNat := by simp only [tkK, hrs, if_pos k3]
          rw [hC]
          exact e2
        · rw [if_neg k3]
          have := congrArg Ky.N he
          simp only [rkN, if_neg k3, hr] at this
          exact this.symm
      rw [tail]
      rw [show bs (be 4 (tN r 4).toNat) ++ tR r 4 = r from e1]
      exact hs
theorem pfx_ok {k : Ky} (h : okK k = true) : pfx k.K k.I = bs (lt k.K) ++ bs (be 4 k.I) ∧ (pfx k.K k.I).size = 5 := by
  obtain ⟨h1, h2⟩ := okK_kind h
  unfold pfx
  rw [if_neg (lt_of h1 h2)]
  refine ⟨rfl, ?_⟩
  rw [ByteArray.size_append, bs_size, bs_size, be_length, (kd_app (lt_of h1 h2) ByteArray.empty).2.2]
theorem wrK_pfx {k : Ky} (h : okK k = true) : wrK k = pfx k.K k.I ++ (if k.K = 3 then bs (be 4 k.C) else k.N) ∧ (wrK k).extract 0 5 = pfx k.K k.I ∧ 5 ≤ (wrK k).size ∧ (wrK k).size ≤ 29 := by
  obtain ⟨e, hz⟩ := pfx_ok h
  have e2 := wrK_eq h
  rw [← ByteArray.append_assoc, ← e] at e2
  refine ⟨e2, ?_, ?_, ?_⟩
  · rw [e2]
    exact ByteArray.extract_append_eq_left hz.symm
  · rw [e2, ByteArray.size_append, hz]; omega
  · rw [e2, ByteArray.size_append, hz]
    by_cases h3 : k.K = 3
    · rw [if_pos h3, bs_size, be_length]; omega
    · rw [if_neg h3]
      rcases (okK_iff.1 h).2 with h | h | h
      · omega
      · have := nb_size h.2.1; omega
      · omega
theorem wrK_inj {a b : Ky} (la : a.lim) (lb : b.lim) (ha : okK a = true) (hb : okK b = true) (h : wrK a = wrK b) : a = b := by
  have e1 := tk_wrK la ha
  have e2 := tk_wrK lb hb
  rw [h] at e1
  exact e1.symm.trans e2
theorem pfx_inj {a b : Ky} (la : a.lim) (lb : b.lim) (ha : okK a = true) (hb : okK b = true) (h : pfx a.K a.I = pfx b.K b.I) : a.K = b.K ∧ a.I = b.I := by
  have ka := okK_kind ha
  have kb := okK_kind hb
  have e1 := kd_app (lt_of ka.1 ka.2) (bs (be 4 a.I))
  have e2 := kd_app (lt_of kb.1 kb.2) (bs (be 4 b.I))
  rw [← (pfx_ok ha).1] at e1
  rw [← (pfx_ok hb).1] at e2
  rw [h] at e1
  refine ⟨e1.1.symm.trans e2.1, ?_⟩
  have h4 : bs (be 4 a.I) = bs (be 4 b.I) := e1.2.1.symm.trans e2.2.1
  have h5 : be 4 a.I = be 4 b.I := by
    have := congrArg (fun s : ByteArray => s.data.toList) h4
    exact this
  have h6 := congrArg num h5
  rw [num_be _ _ (by simpa using la.2.1), num_be _ _ (by simpa using lb.2.1)] at h6
  exact h6
end Go.Proofs.YtjkmfonngbendaaGreatDoor.Ino
/- Volumes as plain data: what is found in one, whether it is right. No walk of code here. -/
namespace Go.Proofs.YtjkmfonngbendaaGreatDoor.Di
set_option linter.unusedVariables false
set_option linter.unusedSimpArgs false
open Ino
open It (Itm)
open Pk (be num be_length num_be num_lt bs bs_size nB nE tN tR tE xB_size)
open Ph (nb)
instance : DecidableEq Ky := fun a b => decidable_of_iff (decide (a.K = b.K) && (decide (a.I = b.I) && (decide (a.N = b.N) && decide (a.C = b.C))) = true) (by
  obtain ⟨a1, a2, a3, a4⟩ := a; obtain ⟨b1, b2, b3, b4⟩ := b
  simp)
/-- an item whose key is taken apart -/
structure Pt where
  k : Ky
  v : ByteArray
structure Vo where
  ino : Nat → Option In
  ent : Ky → Option Nat
  nmd : Nat → Nat
  abv : Nat → Nat
def numOf (v : ByteArray) : Nat := (tN v 4).toNat
theorem numOf_lt (v : ByteArray) : numOf v < 4294967296 := by
  have := tN_lt v 4 (by omega)
  unfold numOf
  have h : (256 ^ 4 : Nat) = 4294967296 := by decide
  rw [h] at this
  have e : ((4 : Nat) : Int) = 4 := rfl
  rw [e] at this
  omega
def takeI (s : Vo) (p : Pt) : Vo := ⟨fun i => if i = p.k.I then some (deI p.v) else s.ino i, s.ent, s.nmd, s.abv⟩
def takeE (s : Vo) (p : Pt) : Vo := ⟨s.ino, fun k => if k = p.k then some (numOf p.v) else s.ent k, fun i => if i = numOf p.v then (s.nmd i + 1) % 4294967296 else s.nmd i, fun i => if i = numOf p.v then p.k.I else s.abv i⟩
def takeP (s : Vo) (p : Pt) : Vo := if p.k.K = 1 then takeI s p else if p.k.K = 2 then takeE s p else s
def lz (v : ByteArray) : Bool := (v.extract (v.size - 1) v.size).toList == [0]
def okP (p : Pt) : Bool :=
  if p.k.K = 1 then decide (deIE p.v = 0) else if p.k.K = 2 then decide (tE p.v 4 = 0) && (decide (tR p.v 4 = ByteArray.empty) && decide (2 ≤ numOf p.v))
  else if p.k.K = 3 then decide (p.v.size ≠ 0) && (decide (p.v.size ≤ 128) && !lz p.v) else decide (p.v.size ≤ 64)
def vo0 : Vo := ⟨fun _ => none, fun _ => none, fun _ => 0, fun _ => 0⟩
def vo (L : List Pt) : Vo := L.foldl takeP vo0
theorem vo_snoc (L : List Pt) (p : Pt) : vo (L ++ [p]) = takeP (vo L) p := by unfold vo; rw [List.foldl_append]; rfl
def ptOf (x : Itm) : Pt := ⟨deK x.k, x.v⟩
def pts (L : List Itm) : List Pt := L.map ptOf
def okX (x : Itm) : Bool := decide (deKE x.k = 0) && okP (ptOf x)
def kind (s : Vo) (i : Nat) : Nat := match s.ino i with | some n => n.K | none => 0
def stray (s : Vo) (p : Pt) : Bool := match s.ino p.k.I with
  | none => true
  | some n => if p.k.K = 1 then decide (p.k.I ≠ 1) && decide (s.nmd p.k.I ≠ n.L)
    else if p.k.K = 2 then decide (n.K ≠ 1) || (s.ino ((s.ent p.k).getD 0)).isNone
    else if p.k.K = 3 then decide (n.K ≠ 2) || decide (n.S < p.k.C * 128 + p.v.size) else false
/-- going up -/
def up (s : Vo) : Nat → Nat → Nat
  | 0, i => i
  | k + 1, i => up s k (s.abv i)
def Up (s : Vo) (i : Nat) : Prop := ∃ k, up s k i = 1
theorem up_succ (s : Vo) : ∀ k i, up s (k + 1) i = s.abv (up s k i)
  | 0, _ => rfl
  | k + 1, i => up_succ s k (s.abv i)
theorem up_add (s : Vo) : ∀ a b i, up s (a + b) i = up s a (up s b i)
  | a, 0, i => rfl
  | a, b + 1, i => by
    rw [show a + (b + 1) = (a + b) + 1 from rfl]
    show up s (a + b) (s.abv i) = up s a (up s b (s.abv i))
    exact up_add s a b _
theorem Up.one (s : Vo) : Up s 1 := ⟨0, rfl⟩
theorem Up.of_up {s : Vo} {k i : Nat} (h : Up s (up s k i)) : Up s i := by
  obtain ⟨m, h⟩ := h
  exact ⟨m + k, by rw [up_add]; exact h⟩
def AllUp (s : Vo) : Prop := ∀ i n, s.ino i = some n → n.K = 1 → Up s i
structure Right (L : List Itm) : Prop where
  rt : It.rt L = true
  ok : ∀ x ∈ L, okX x = true
  root : kind (vo (pts L)) 1 = 1
  str : ∀ p ∈ pts L, stray (vo (pts L)) p = false
  ups : AllUp (vo (pts L))
noncomputable def rgt (L : List Itm) : Bool := @decide (Right L) (Classical.propDecidable _)
theorem rgt_iff {L : List Itm} : rgt L = true ↔ Right L := by unfold rgt; exact @decide_eq_true_iff _ (Classical.propDecidable _)
theorem snocRec {α : Type} {P : List α → Prop} (h0 : P []) (h1 : ∀ L p, P L → P (L ++ [p])) (L : List α) : P L := by
  have key : ∀ R : List α, P R.reverse := by
    intro R
    induction R with
    | nil => exact h0
    | cons a R ih => rw [List.reverse_cons]; exact h1 _ _ ih
  have := key L.reverse
  rwa [List.reverse_reverse] at this
/-! what is found comes from some part -/
theorem ino_of : ∀ (L : List Pt) {i : Nat} {n : In}, (vo L).ino i = some n → ∃ p ∈ L, p.k.K = 1 ∧ p.k.I = i ∧ n = deI p.v := by
  intro L
  induction L using snocRec with
  | h0 => intro i n h; cases h
  | h1 L p ih =>
    intro i n h
    rw [vo_snoc] at h
    have old : (vo L).ino i = some n → ∃ p' ∈ L ++ [p], p'.k.K = 1 ∧ p'.k.I = i ∧ n = deI p'.v := fun h => by
      obtain ⟨q, hq, r⟩ := ih h
      exact ⟨q, List.mem_append_left _ hq, r⟩
    unfold takeP at h
    split at h
    · rename_i h1
      unfold takeI at h
      dsimp only at h
      split at h
      · rename_i h2
        cases h
        exact ⟨p, by simp, h1, h2.symm, rfl⟩
      · exact old h
    · split at h
      · exact old h
      · exact old h
theorem ino_is {L : List Pt} {p : Pt} (hp : p ∈ L) (h1 : p.k.K = 1) : ((vo L).ino p.k.I).isSome = true := by
  induction L using snocRec with
  | h0 => cases hp
  | h1 L q ih =>
    rw [vo_snoc]
    have old : p ∈ L → ((takeP (vo L) q).ino p.k.I).isSome = true := fun h => by
      have := ih h
      unfold takeP
      split
      · unfold takeI; dsimp only; split
        · rfl
        · exact this
      · split <;> exact this
    rcases List.mem_append.1 hp with h | h
    · exact old h
    · obtain rfl : p = q := by simpa using h
      unfold takeP
      rw [if_pos h1]
      unfold takeI
      dsimp only
      rw [if_pos rfl]; rfl
theorem ent_of : ∀ (L : List Pt) {k : Ky} {j : Nat}, (vo L).ent k = some j → ∃ p ∈ L, p.k.K = 2 ∧ p.k = k ∧ j = numOf p.v := by
  intro L
  induction L using snocRec with
  | h0 => intro i n h; cases h
  | h1 L p ih =>
    intro k j h
    rw [vo_snoc] at h
    have old : (vo L).ent k = some j → ∃ p' ∈ L ++ [p], p'.k.K = 2 ∧ p'.k = k ∧ j = numOf p'.v := fun h => by
      obtain ⟨q, hq, r⟩ := ih h
      exact ⟨q, List.mem_append_left _ hq, r⟩
    unfold takeP at h
    split at h
    · exact old h
    · split at h
      · rename_i h1
        unfold takeE at h
        dsimp only at h
        split at h
        · rename_i h2
          cases h
          exact ⟨p, by simp, h1, h2.symm, rfl⟩
        · exact old h
      · exact old h
theorem ent_is {L : List Pt} {p : Pt} (hp : p ∈ L) (h2 : p.k.K = 2) : ((vo L).ent p.k).isSome = true := by
  induction L using snocRec with
  | h0 => cases hp
  | h1 L q ih =>
    rw [vo_snoc]
    have old : p ∈ L → ((takeP (vo L) q).ent p.k).isSome = true := fun h => by
      have := ih h
      unfold takeP
      split
      · exact this
      · split
        · unfold takeE; dsimp only; split
          · rfl
          · exact this
        · exact this
    rcases List.mem_append.1 hp with h | h
    · exact old h
    · obtain rfl : p = q := by simpa using h
      unfold takeP
      rw [if_neg (by omega), if_pos h2]
      unfold takeE
      dsimp only
      rw [if_pos rfl]; rfl
theorem nmd_of : ∀ (L : List Pt) {i : Nat}, (vo L).nmd i ≠ 0 → ∃ p ∈ L, p.k.K = 2 ∧ numOf p.v = i ∧ (vo L).abv i = p.k.I := by
  intro L
  induction L using snocRec with
  | h0 => intro i h; exact absurd rfl h
  | h1 L p ih =>
    intro i h
    rw [vo_snoc] at h ⊢
    have old : (vo L).nmd i ≠ 0 → (takeP (vo L) p).abv i = (vo L).abv i → ∃ p' ∈ L ++ [p], p'.k.K = 2 ∧ numOf p'.v = i ∧ (takeP (vo L) p).abv i = p'.k.I := fun h e => by
      obtain ⟨q, hq, r1, r2, r3⟩ := ih h
      exact ⟨q, List.mem_append_left _ hq, r1, r2, e.trans r3⟩
    by_cases h1 : p.k.K = 1
    · have e : takeP (vo L) p = takeI (vo L) p := by unfold takeP; rw [if_pos h1]
      exact old (by rw [e] at h; exact h) (by rw [e]; rfl)
    · by_cases h2 : p.k.K = 2
      · have e : takeP (vo L) p = takeE (vo L) p := by unfold takeP; rw [if_neg h1, if_pos h2]
        by_cases h3 : i = numOf p.v
        · refine ⟨p, by simp, h2, h3.symm, ?_⟩
          rw [e]; unfold takeE; dsimp only; rw [if_pos h3]
        · refine old ?_ ?_
          · rw [e] at h; unfold takeE at h; dsimp only at h; rwa [if_neg h3] at h
          · rw [e]; unfold takeE; dsimp only; rw [if_neg h3]
      · have e : takeP (vo L) p = vo L := by unfold takeP; rw [if_neg h1, if_neg h2]
        exact old (by rw [e] at h; exact h) (by rw [e])
/-! of a volume all of whose items are right, with none that strays -/
theorem okI_dir {n : In} (h : okI n = true) (h1 : n.K = 1) : n.L = 1 := by
  unfold okI at h
  simp_all
theorem deI_ok {s : ByteArray} (h : deIE s = 0) : okI (deI s) = true := by
  unfold deIE at h
  unfold deI
  split at h
  · rename_i h1
    rw [if_pos h1]; exact h1.1
  · cases h
theorem okP_1 {p : Pt} (h : okP p = true) (h1 : p.k.K = 1) : deIE p.v = 0 := by
  unfold okP at h
  rw [if_pos h1] at h
  exact of_decide_eq_true h
theorem okP_2 {p : Pt} (h : okP p = true) (h1 : p.k.K = 2) : tE p.v 4 = 0 ∧ tR p.v 4 = ByteArray.empty ∧ 2 ≤ numOf p.v := by
  unfold okP at h
  rw [if_neg (by omega), if_pos h1] at h
  simp only [Bool.and_eq_true, decide_eq_true_eq] at h
  exact h
theorem stray_some {s : Vo} {p : Pt} (h : stray s p = false) : ∃ n, s.ino p.k.I = some n := by
  unfold stray at h
  cases e : s.ino p.k.I with
  | none => rw [e] at h; cases h
  | some n => exact ⟨n, rfl⟩
theorem stray_1 {s : Vo} {p : Pt} (h : stray s p = false) (h1 : p.k.K = 1) {n : In} (hn : s.ino p.k.I = some n) : p.k.I = 1 ∨ s.nmd p.k.I = n.L := by
  unfold stray at h
  rw [hn] at h
  dsimp only at h
  rw [if_pos h1] at h
  by_cases e : p.k.I = 1
  · exact .inl e
  · refine .inr ?_
    simp only [e, ne_eq, not_false_eq_true, decide_true, Bool.true_and, decide_not, Bool.not_eq_false', decide_eq_true_eq] at h
    exact h
theorem stray_2 {s : Vo} {p : Pt} (h : stray s p = false) (h1 : p.k.K = 2) : kind s p.k.I = 1 ∧ ∃ n, s.ino ((s.ent p.k).getD 0) = some n := by
  unfold stray at h
  unfold kind
  cases e : s.ino p.k.I with
  | none => rw [e] at h; cases h
  | some n =>
    rw [e] at h
    dsimp only at h ⊢
    rw [if_neg (by omega), if_pos h1] at h
    obtain ⟨h2, h3⟩ := Bool.or_eq_false_iff.1 h
    refine ⟨by simpa using h2, ?_⟩
    cases e2 : s.ino ((s.ent p.k).getD 0) with
    | none => rw [e2] at h3; cases h3
    | some m => exact ⟨m, rfl⟩
/-- of a directory that is not the root there is an entry, in a directory -/
def Chn (s : Vo) : Prop := ∀ i n, s.ino i = some n → n.K = 1 → i ≠ 1 → kind s (s.abv i) = 1
theorem kind_some {s : Vo} {i : Nat} (h : kind s i ≠ 0) : ∃ n, s.ino i = some n ∧ n.K = kind s i := by
  unfold kind at h ⊢
  cases e : s.ino i with
  | none => rw [e] at h; exact absurd rfl h
  | some n => exact ⟨n, rfl, rfl⟩
theorem chn_of {L : List Pt} (hok : ∀ p ∈ L, okP p = true) (hs : ∀ p ∈ L, stray (vo L) p = false) : Chn (vo L) := by
  intro i n hn h1 hi
  obtain ⟨p, hp, p1, rfl, rfl⟩ := ino_of L hn
  have hl := okI_dir (deI_ok (okP_1 (hok p hp) p1)) h1
  rcases stray_1 (hs p hp) p1 hn with h | h
  · exact absurd h hi
  · obtain ⟨q, hq, q2, _, q4⟩ := nmd_of L (i := p.k.I) (by rw [h, hl]; decide)
    rw [q4]
    exact (stray_2 (hs q hq) q2).1
/-- whoever comes to the root does so within as many steps as there are inodes -/
theorem up_chain {s : Vo} (hc : Chn s) {i k : Nat} (hi : kind s i = 1) (hk : ∀ t, t < k → up s t i ≠ 1) : ∀ t, t ≤ k → kind s (up s t i) = 1 := by
  intro t
  induction t with
  | zero => intro _; exact hi
  | succ t ih =>
    intro ht
    have h := ih (by omega)
    obtain ⟨n, hn, h1⟩ := kind_some (s := s) (i := up s t i) (by rw [h]; decide)
    rw [up_succ]
    exact hc _ n hn (by rw [h1, h]) (hk t (by omega))
theorem up_inj {s : Vo} {i k : Nat} (h1 : up s k i = 1) (hk : ∀ t, t < k → up s t i ≠ 1) {a b : Nat} (ha : a < b) (hb : b ≤ k) : up s a i ≠ up s b i := by
  intro e
  have e1 : up s ((k - b) + b) i = 1 := by rw [Nat.sub_add_cancel hb]; exact h1
  rw [up_add, ← e, ← up_add] at e1
  exact hk _ (by omega) e1
theorem first_one {s : Vo} {i : Nat} (h : Up s i) : ∃ k, up s k i = 1 ∧ ∀ t, t < k → up s t i ≠ 1 := by
  obtain ⟨k, h⟩ := h
  induction k using Nat.strongRecOn with
  | ind k ih =>
    by_cases hx : ∃ t, t < k ∧ up s t i = 1
    · obtain ⟨t, ht, e⟩ := hx
      exact ih t ht e
    · exact ⟨k, h, fun t ht e => hx ⟨t, ht, e⟩⟩
/-- N: a bound on how many inodes there can be in a list in which none stands twice -/
theorem up_soon {s : Vo} (hc : Chn s) {N i : Nat} (hN : ∀ ks : List Nat, ks.Nodup → (∀ j ∈ ks, (s.ino j).isSome = true) → ks.length ≤ N) (hi : kind s i = 1) (h : Up s i) : ∃ k, k < N ∧ up s k i = 1 := by
  obtain ⟨k, h1, hk⟩ := first_one h
  refine ⟨k, ?_, h1⟩
  have := hN ((List.range (k + 1)).map fun t => up s t i) (by
    rw [List.nodup_iff_pairwise_ne, List.pairwise_map]
    refine (List.pairwise_lt_range (n := k + 1)).imp_of_mem ?_
    intro a b ha hb hab
    exact up_inj h1 hk hab (by have := List.mem_range.1 hb; omega)) (by
    intro j hj
    obtain ⟨t, ht, rfl⟩ := List.mem_map.1 hj
    obtain ⟨n, hn, _⟩ := kind_some (s := s) (i := up s t i) (by rw [up_chain hc hi hk t (by have := List.mem_range.1 ht; omega)]; decide)
    rw [hn]; rfl)
  rw [List.length_map, List.length_range] at this
  omega
end Go.Proofs.YtjkmfonngbendaaGreatDoor.Di
/- Letters of package inode, made when they are first asked for: sync.Once, one goroutine. -/
namespace Go.Proofs.YtjkmfonngbendaaGreatDoor.Ino
set_option linter.unusedVariables false
set_option linter.unusedSimpArgs false
open Go.ChangeShapes Go.WideShapes Go.ChangeAt Go.RowKit
open Pk (bs)
theorem once_disable (w : World) : (callFunc 213 #[]).run Tryz.prog w = .ok (.value (.tuple #[])) w := run_call_mark0 Tryz.func213 (by kernel_rfl) (by kernel_rfl) (by kernel_rfl) .disable (by kernel_rfl) w
theorem once_enable (w : World) : (callFunc 215 #[]).run Tryz.prog w = .ok (.value (.tuple #[])) w := run_call_mark0 Tryz.func215 (by kernel_rfl) (by kernel_rfl) (by kernel_rfl) .enable (by kernel_rfl) w
theorem once_acquire (a : Addr) (w : World) : (callFunc 216 #[.pointer (some a)]).run Tryz.prog w = .ok (.value (.tuple #[])) w := run_call_marked Tryz.func216 (by kernel_rfl) (by kernel_rfl) (by kernel_rfl) .acquire (by kernel_rfl) a w
theorem once_release (a : Addr) (w : World) : (callFunc 218 #[.pointer (some a)]).run Tryz.prog w = .ok (.value (.tuple #[])) w := run_call_marked Tryz.func218 (by kernel_rfl) (by kernel_rfl) (by kernel_rfl) .releaseMerge (by kernel_rfl) a w
/-- '(*sync/atomic.Bool).Store(true)', entered as a deferred call -/
theorem store_deferred (a : Addr) (x : Value) (u : FrameMode) (w : World) (hc : w.cell? a = some x) (hz : w.frozen? a = false) :
    CallsD Tryz.prog 177 #[.pointer (some a), .bool true] u w fun e u' w' => u' = u ∧ (e = .returned (.tuple #[]) ∧ w' = w.drew.setCell a (.int .u32 1)) := by
  have hc' : w.drew.cell? a = some x := by go_simp
  have hz' : w.drew.frozen? a = false := by go_simp
  have hst := run_call_store (P := Tryz.prog) Tryz.func198 (by kernel_rfl) (by kernel_rfl) (by kernel_rfl) (by kernel_rfl) (k := .u32) (y := 1) hc' hz'
  go_enter_d Tryz.func177, Tryz.ntmps177
  go_wp2
  go_region_calls
  all_goals (go_end0; exact ⟨rfl, rfl⟩)
set_option maxRecDepth 100000 in
/-- '(*sync.Mutex).Unlock', entered as a deferred call, the lock held and nobody waiting -/
theorem unlock_deferred (a : Addr) (u : FrameMode) (w : World) (hc : w.cell? a = some (.int .i32 1)) (hz : w.frozen? a = false) :
    CallsD Tryz.prog 176 #[.pointer (some a)] u w fun e u' w' => u' = u ∧ (e = .returned (.tuple #[]) ∧ w' = w.setCell a (.int .i32 0)) := by
  have hd := once_disable
  have he := once_enable
  have hr := once_release
  have hadd := run_call_add (P := Tryz.prog) Tryz.func219 (by kernel_rfl) (by kernel_rfl) (by kernel_rfl) .i32 (by kernel_rfl) (y := -1) (s := 0) hc hz (by simp [go_sem]; rfl)
  have hcv0 := run_convert_to_unsafe (P := Tryz.prog) (src := 258) (dst := 249) Tryz.underlying258 Tryz.underlying249 (by kernel_rfl) hc
  have hcv1 := run_convert_to_unsafe (P := Tryz.prog) (src := 266) (dst := 249) Tryz.underlying266 Tryz.underlying249 (by kernel_rfl) hc
  go_enter_d Tryz.func176, Tryz.ntmps176
  go_wp2
  go_end0
  go_wp2
set_option maxRecDepth 100000 in
/-- '(*sync.Mutex).Lock', the lock free -/
theorem lock_free (a : Addr) (w : World) (hc : w.cell? a = some (.int .i32 0)) (hz : w.frozen? a = false) :
    Calls Tryz.prog 175 #[.pointer (some a)] w fun e w' => e = .returned (.tuple #[]) ∧ w' = w.setCell a (.int .i32 1) := by
  have hd := once_disable
  have he := once_enable
  have ha := once_acquire
  have hcas := run_call_cas_hit (P := Tryz.prog) Tryz.func214 (by kernel_rfl) (by kernel_rfl) (by kernel_rfl) .i32 (by kernel_rfl) (y := 1) hc hz
  have hc' : (w.setCell a (.int .i32 1)).cell? a = some (.int .i32 1) := World.cell?_setCell_same w a _ hc
  have hcv0 := run_convert_to_unsafe (P := Tryz.prog) (src := 258) (dst := 249) Tryz.underlying258 Tryz.underlying249 (by kernel_rfl) hc'
  have hcv1 := run_convert_to_unsafe (P := Tryz.prog) (src := 266) (dst := 249) Tryz.underlying266 Tryz.underlying249 (by kernel_rfl) hc'
  go_enter Tryz.func175, Tryz.ntmps175
  go_wp2
  first | go_end0 | (simp only [Exit.inBlock, Exit.then]; refine bodyPost_ret (results_none rfl _ _ _) rfl ?_) | refine bodyPost_ret (results_none rfl _ _ _) rfl ?_
  go_wp2
/-- a kind's letter -/
def ltB (K : Nat) : ByteArray := bs (lt K)
def nmL : List Value := [.string ByteArray.empty, .string (ltB 1), .string (ltB 2), .string (ltB 3), .string (ltB 4)]
def emL : List Value := List.replicate 5 (.string ByteArray.empty)
def lRow (b : Bool) : List Value := if b then .int .u32 1 :: .int .i32 0 :: .int .u32 0 :: nmL else .int .u32 0 :: .int .i32 0 :: .int .u32 0 :: emL
theorem lRow_len (b : Bool) : (lRow b).length = 8 := by cases b <;> rfl
/-- the letters lie in block g, made or not -/
def LtAt (w : World) (g : Nat) (b : Bool) : Prop := w.rangeAt g 0 (lRow b) ∧ ∀ i, i < 8 → w.frozen? ⟨g, i, none⟩ = false
theorem LtAt.get {w : World} {g : Nat} {b : Bool} (h : LtAt w g b) (i : Nat) {v : Value} (hv : (lRow b)[i]? = some v) : w.cell? ⟨g, i, none⟩ = some v := by
  have := h.1 i v hv
  rwa [Nat.zero_add] at this
theorem LtAt.there {w : World} {g : Nat} {b : Bool} (h : LtAt w g b) : w.there g 3 5 := fun j hj => by
  obtain ⟨v, hv⟩ : ∃ v, (lRow b)[3 + j]? = some v := ⟨_, List.getElem?_eq_getElem (by rw [lRow_len]; omega)⟩
  exact ⟨by rw [h.get (3 + j) hv]; rfl, h.2 _ (by omega)⟩
/-- the world behind the letters' making -/
def filled (w : World) (g : Nat) : World := ((((w.setCell ⟨g, 3, none⟩ (.string ⟨#[]⟩)).setCell ⟨g, 4, none⟩ (.string ⟨#[105]⟩)).setCell ⟨g, 5, none⟩ (.string ⟨#[100]⟩)).setCell ⟨g, 6, none⟩ (.string ⟨#[99]⟩)).setCell ⟨g, 7, none⟩ (.string ⟨#[120]⟩)
theorem fill_any (g : Nat) (x3 x4 x5 x6 x7 : Value) (w : World) (c3 : w.cell? ⟨g, 3, none⟩ = some x3) (c4 : w.cell? ⟨g, 4, none⟩ = some x4) (c5 : w.cell? ⟨g, 5, none⟩ = some x5) (c6 : w.cell? ⟨g, 6, none⟩ = some x6) (c7 : w.cell? ⟨g, 7, none⟩ = some x7)
    (f3 : w.frozen? ⟨g, 3, none⟩ = false) (f4 : w.frozen? ⟨g, 4, none⟩ = false) (f5 : w.frozen? ⟨g, 5, none⟩ = false) (f6 : w.frozen? ⟨g, 6, none⟩ = false) (f7 : w.frozen? ⟨g, 7, none⟩ = false) :
    Calls Tryz.prog 162 #[.pointer (some ⟨g, 0, none⟩)] w fun e w' => e = .returned (.tuple #[]) ∧ w' = filled w g := by
  go_enter Tryz.func162, Tryz.ntmps162
  go_wp2
  go_end0
  exact ⟨rfl, rfl⟩
/-- the world behind the first asking -/
def onced (w : World) (g : Nat) : World := ((filled (w.setCell ⟨g, 1, none⟩ (.int .i32 1)) g).drew.setCell ⟨g, 0, none⟩ (.int .u32 1)).setCell ⟨g, 1, none⟩ (.int .i32 0)
theorem filled_get {w : World} {g i : Nat} {v : Value} (h : w.cell? ⟨g, i, none⟩ = some v) (hi : i < 3) : (filled w g).cell? ⟨g, i, none⟩ = some v := by
  unfold filled
  rw [World.cell?_setCell_other _ _ _ _ (by simp <;> omega), World.cell?_setCell_other _ _ _ _ (by simp <;> omega), World.cell?_setCell_other _ _ _ _ (by simp <;> omega), World.cell?_setCell_other _ _ _ _ (by simp <;> omega), World.cell?_setCell_other _ _ _ _ (by simp <;> omega)]
  exact h
theorem filled_fro {w : World} {g : Nat} {a : Addr} : (filled w g).frozen? a = w.frozen? a := by simp [filled]
set_option maxRecDepth 100000 in
set_option maxHeartbeats 1600000 in
theorem slow_any (g : Nat) (w : World) (h : LtAt w g false) :
    Calls Tryz.prog 132 #[.pointer (some ⟨g, 0, none⟩), .func (.func 162) #[.pointer (some ⟨g, 0, none⟩)] #[]] w fun e w' => e = .returned (.tuple #[]) ∧ w' = onced w g := by
  have h0 : w.cell? ⟨g, 0, none⟩ = some (.int .u32 0) := h.get 0 rfl
  have h1 : w.cell? ⟨g, 1, none⟩ = some (.int .i32 0) := h.get 1 rfl
  have c : ∀ i, 3 ≤ i → i < 8 → (w.setCell ⟨g, 1, none⟩ (.int .i32 1)).cell? ⟨g, i, none⟩ = some (.string ByteArray.empty) := by
    intro i h3 h8
    rw [World.cell?_setCell_other _ _ _ _ (by simp <;> omega)]
    exact h.get i (by rcases (show i = 3 ∨ i = 4 ∨ i = 5 ∨ i = 6 ∨ i = 7 by omega) with rfl | rfl | rfl | rfl | rfl <;> rfl)
  have f0 := h.2 0 (by omega)
  have f1 := h.2 1 (by omega)
  have z : ∀ i, i < 8 → (w.setCell ⟨g, 1, none⟩ (.int .i32 1)).frozen? ⟨g, i, none⟩ = false := by
    intro i hi
    simp [h.2 i hi]
  have HF := Lib.hid (fill_any g _ _ _ _ _ (w.setCell ⟨g, 1, none⟩ (.int .i32 1)) (c 3 (by omega) (by omega)) (c 4 (by omega) (by omega)) (c 5 (by omega) (by omega)) (c 6 (by omega) (by omega)) (c 7 (by omega) (by omega)) (z 3 (by omega)) (z 4 (by omega)) (z 5 (by omega)) (z 6 (by omega)) (z 7 (by omega)))
  have k0 : (filled (w.setCell ⟨g, 1, none⟩ (.int .i32 1)) g).cell? ⟨g, 0, none⟩ = some (.int .u32 0) := filled_get (by rw [World.cell?_setCell_other _ _ _ _ (by simp)]; exact h0) (by omega)
  have k1 : (filled (w.setCell ⟨g, 1, none⟩ (.int .i32 1)) g).cell? ⟨g, 1, none⟩ = some (.int .i32 1) := filled_get (World.cell?_setCell_same _ _ _ h1) (by omega)
  have g0 : (filled (w.setCell ⟨g, 1, none⟩ (.int .i32 1)) g).frozen? ⟨g, 0, none⟩ = false := by rw [filled_fro]; exact z 0 (by omega)
  have g1 : (filled (w.setCell ⟨g, 1, none⟩ (.int .i32 1)) g).frozen? ⟨g, 1, none⟩ = false := by rw [filled_fro]; exact z 1 (by omega)
  have hl := run_call_load (P := Tryz.prog) Tryz.func174 (by kernel_rfl) (by kernel_rfl) (by kernel_rfl) .u32 (by kernel_rfl) (w := w.setCell ⟨g, 1, none⟩ (.int .i32 1)) (a := ⟨g, 0, none⟩) (x := 0) ((World.cell?_setCell_other _ ⟨g, 1, none⟩ ⟨g, 0, none⟩ _ (by simp)).trans h0)
  have hnot : ∀ (x : Bool) (w : World), (Op.unary .not (.bool x)).run Tryz.prog w = .ok (.bool (!x)) w := fun _ _ => rfl
  have K0 := Lib.hid k0
  have K1 := Lib.hid k1
  have G0 := Lib.hid g0
  have G1 := Lib.hid g1
  clear c z k0 k1 g0 g1 h
  go_enter_defers Tryz.func132, Tryz.ntmps132
  go_wp2_with (go_at_call 175; refine (lock_free ⟨g, 1, none⟩ _ (by go_simp) (by go_simp)).mono ?_; rintro e w' ⟨rfl, rfl⟩)
  go_wp2_with (first | (go_at_call 131; go_in) | (go_at_call 162; refine HF.out.mono ?_; rintro e w' ⟨rfl, rfl⟩))
  refine leaves_cons (f := 177) (args := #[.pointer (some ⟨g, 0, none⟩), .bool true]) (by simp) (by simp [go_sem]) ?_
  refine (store_deferred ⟨g, 0, none⟩ (.int .u32 0) .returning _ K0.out G0.out).mono ?_
  rintro e u' w'' ⟨rfl, rfl, rfl⟩
  refine leaves_cons (f := 176) (args := #[.pointer (some ⟨g, 1, none⟩)]) (by simp [settle]) (by simp [go_sem]) ?_
  refine (unlock_deferred ⟨g, 1, none⟩ _ _ ?_ (by simp [G1.out])).mono ?_
  · refine (World.cell?_setCell_other _ ⟨g, 0, none⟩ ⟨g, 1, none⟩ _ (by simp)).trans ?_
    rw [World.cell?_drew]
    exact K1.out
  rintro e u' w'' ⟨rfl, rfl, rfl⟩
  simp [Leaves, settle, results, Tryz.results132, onced]
theorem onced_get {w : World} {g : Nat} {b : Bool} (h : LtAt w g b) : LtAt (onced w g) g true := by
  have c : ∀ i, i < 8 → (w.cell? ⟨g, i, none⟩).isSome = true := fun i hi => by
    rw [h.get i (List.getElem?_eq_getElem (by rw [lRow_len]; exact hi))]; rfl
  refine ⟨?_, fun i hi => ?_⟩
  · intro i v hv
    rw [Nat.zero_add]
    have hi : i < 8 := by have := (List.getElem?_eq_some_iff.1 hv).1; rw [lRow_len] at this; exact this
    have key : ∀ (W : World) (j : Nat) (u : Value), (∀ i, i < 8 → (W.cell? ⟨g, i, none⟩).isSome = true) → ∀ i, i < 8 → ((W.setCell ⟨g, j, none⟩ u).cell? ⟨g, i, none⟩).isSome = true := by
      intro W j u hW i hi
      by_cases hj : j = i
      · subst hj
        obtain ⟨x, hx⟩ := Option.isSome_iff_exists.1 (hW j hi)
        rw [World.cell?_setCell_same _ _ _ hx]; rfl
      · rw [World.cell?_setCell_other _ _ _ _ (by simp [hj])]; exact hW i hi
    have put : ∀ (W : World) (j : Nat) (u : Value), (∀ i, i < 8 → (W.cell? ⟨g, i, none⟩).isSome = true) → j < 8 → (W.setCell ⟨g, j, none⟩ u).cell? ⟨g, j, none⟩ = some u := by
      intro W j u hW hj
      obtain ⟨x, hx⟩ := Option.isSome_iff_exists.1 (hW j hj)
      exact World.cell?_setCell_same _ _ _ hx
    have off : ∀ (W : World) (j : Nat) (u : Value), j ≠ i → (W.setCell ⟨g, j, none⟩ u).cell? ⟨g, i, none⟩ = W.cell? ⟨g, i, none⟩ := fun W j u hj => World.cell?_setCell_other _ _ _ _ (by simp [hj])
    have s1 := key w 1 (.int .i32 1) c
    have s2 := key _ 3 (.string ⟨#[]⟩) s1
    have s3 := key _ 4 (.string ⟨#[105]⟩) s2
    have s4 := key _ 5 (.string ⟨#[100]⟩) s3
    have s5 := key _ 6 (.string ⟨#[99]⟩) s4
    have s6 := key _ 7 (.string ⟨#[120]⟩) s5
    have s7 : ∀ i, i < 8 → ((filled (w.setCell ⟨g, 1, none⟩ (.int .i32 1)) g).drew.cell? ⟨g, i, none⟩).isSome = true := fun i hi => by rw [World.cell?_drew]; exact s6 i hi
    have s8 := key _ 0 (.int .u32 1) s7
    unfold onced
    rcases (show i = 0 ∨ i = 1 ∨ i = 2 ∨ i = 3 ∨ i = 4 ∨ i = 5 ∨ i = 6 ∨ i = 7 by omega) with rfl | rfl | rfl | rfl | rfl | rfl | rfl | rfl
    · rw [off _ 1 _ (by decide), put _ 0 _ s7 (by decide)]; exact hv
    · rw [put _ 1 _ s8 (by decide)]; exact hv
    · rw [off _ 1 _ (by decide), off _ 0 _ (by decide), World.cell?_drew]
      unfold filled
      rw [off _ 7 _ (by decide), off _ 6 _ (by decide), off _ 5 _ (by decide), off _ 4 _ (by decide), off _ 3 _ (by decide), off _ 1 _ (by decide)]
      exact (h.get 2 (by cases b <;> rfl : (lRow b)[2]? = some (.int .u32 0))).trans hv
    · rw [off _ 1 _ (by decide), off _ 0 _ (by decide), World.cell?_drew]
      unfold filled
      rw [off _ 7 _ (by decide), off _ 6 _ (by decide), off _ 5 _ (by decide), off _ 4 _ (by decide), put _ 3 _ s1 (by decide)]; exact hv
    · rw [off _ 1 _ (by decide), off _ 0 _ (by decide), World.cell?_drew]
      unfold filled
      rw [off _ 7 _ (by decide), off _ 6 _ (by decide), off _ 5 _ (by decide), put _ 4 _ s2 (by decide)]; exact hv
    · rw [off _ 1 _ (by decide), off _ 0 _ (by decide), World.cell?_drew]
      unfold filled
      rw [off _ 7 _ (by decide), off _ 6 _ (by decide), put _ 5 _ s3 (by decide)]; exact hv
    · rw [off _ 1 _ (by decide), off _ 0 _ (by decide), World.cell?_drew]
      unfold filled
      rw [off _ 7 _ (by decide), put _ 6 _ s4 (by decide)]; exact hv
    · rw [off _ 1 _ (by decide), off _ 0 _ (by decide), World.cell?_drew]
      unfold filled
      rw [put _ 7 _ s5 (by decide)]; exact hv
  · simp [onced, filled_fro, h.2 i hi]
theorem onced_below (w : World) (g : Nat) : Below g w (onced w g) := by
  unfold onced filled
  exact ((((((((Below.refl g w).setCell (Nat.le_refl _) _).setCell (Nat.le_refl _) _).setCell (Nat.le_refl _) _).setCell (Nat.le_refl _) _).setCell (Nat.le_refl _) _).setCell (Nat.le_refl _) _).drew.setCell (Nat.le_refl _) _).setCell (Nat.le_refl _) _
set_option maxRecDepth 100000 in
set_option maxHeartbeats 1600000 in
theorem do_any (g : Nat) (b : Bool) (w : World) (h : LtAt w g b) :
    Calls Tryz.prog 86 #[.pointer (some ⟨g, 0, none⟩), .func (.func 162) #[.pointer (some ⟨g, 0, none⟩)] #[]] w fun e w' => e = .returned (.tuple #[]) ∧ LtAt w' g true ∧ Below g w w' := by
  have hnot : ∀ (x : Bool) (w : World), (Op.unary .not (.bool x)).run Tryz.prog w = .ok (.bool (!x)) w := fun _ _ => rfl
  cases b
  · have h0 : w.cell? ⟨g, 0, none⟩ = some (.int .u32 0) := h.get 0 rfl
    have hl := run_call_load (P := Tryz.prog) Tryz.func174 (by kernel_rfl) (by kernel_rfl) (by kernel_rfl) .u32 (by kernel_rfl) h0
    have HS := Lib.hid (slow_any g w h)
    have HO := Lib.hid (onced_get h)
    clear h
    go_enter Tryz.func86, Tryz.ntmps86
    go_wp2_with (first | (go_at_call 132; refine HS.out.mono ?_; rintro e w' ⟨rfl, rfl⟩) | (go_at_call 131; go_in))
    go_end0
    exact ⟨rfl, HO.out, onced_below w g⟩
  · have h0 : w.cell? ⟨g, 0, none⟩ = some (.int .u32 1) := h.get 0 rfl
    have hl := run_call_load (P := Tryz.prog) Tryz.func174 (by kernel_rfl) (by kernel_rfl) (by kernel_rfl) .u32 (by kernel_rfl) h0
    have HO := Lib.hid h
    clear h
    go_enter Tryz.func86, Tryz.ntmps86
    go_wp2
    go_end0
    exact ⟨rfl, HO.out, Below.refl _ _⟩
theorem made_get {w : World} {g K : Nat} (h : LtAt w g true) (hK : K < 5) : w.cell? ⟨g, 3 + K, none⟩ = some (.string (ltB K)) := by
  refine h.get (3 + K) ?_
  rcases (show K = 0 ∨ K = 1 ∨ K = 2 ∨ K = 3 ∨ K = 4 by omega) with rfl | rfl | rfl | rfl | rfl <;> rfl
theorem ltB_no {K : Nat} (h : ¬ K < 5) : ltB K = ByteArray.empty := by
  unfold ltB lt
  rw [if_neg (by omega), if_neg (by omega), if_neg (by omega), if_neg (by omega)]; rfl
set_option maxRecDepth 100000 in
set_option maxHeartbeats 1000000 in
theorem of_any (g K : Nat) (b : Bool) (hK : K < 256) (w : World) (h : LtAt w g b) :
    Calls Tryz.prog 119 #[.pointer (some ⟨g, 0, none⟩), .int .u8 K] w fun e w' => e = .returned (.string (ltB K)) ∧ LtAt w' g true ∧ Below g w w' := by
  have hmf : ∀ (fn : Fn) (first cap : Array Value) (w : World), (Instr.makeFunc fn first cap).run Tryz.prog w = .ok (.func fn first cap) w := fun _ _ _ _ => rfl
  have HD := Lib.hid (do_any g b w h)
  clear h
  by_cases h5 : K < 5
  · have d : decide ((5 : Int) ≤ (K : Int)) = false := by simp; omega
    go_enter Tryz.func119, Tryz.ntmps119
    go_wp2_with fail
    refine HD.out.mono ?_
    rintro e w1 ⟨rfl, h1, hb⟩
    have hc := made_get h1 h5
    have H1 := Lib.hid h1
    clear h1
    go_wp2
    go_ret
    exact ⟨rfl, H1.out, hb⟩
  · have d : decide ((5 : Int) ≤ (K : Int)) = true := by simp; omega
    have HE := Lib.hid (ltB_no h5)
    go_enter Tryz.func119, Tryz.ntmps119
    go_wp2_with fail
    refine HD.out.mono ?_
    rintro e w1 ⟨rfl, h1, hb⟩
    have H1 := Lib.hid h1
    clear h1
    go_wp2
    go_ret
    exact ⟨by rw [HE.out]; rfl, H1.out, hb⟩
end Go.Proofs.YtjkmfonngbendaaGreatDoor.Ino
/- Contracts of names: the code's and the document's. -/
namespace Go.Proofs.YtjkmfonngbendaaGreatDoor.Ph
set_option linter.unusedVariables false
open Go.ChangeShapes Go.WideShapes Go.ChangeAt Go.RowKit
open BigFrame
/-- a list of names lies so -/
def en1 (s : ByteArray) : List Value := [.string s]
theorem en1_len (s : ByteArray) : (en1 s).length = 1 := rfl
theorem en1_one (s : ByteArray) : ∀ u ∈ en1 s, u.oneCell' = true := by
  intro u hu
  simp [en1] at hu
  subst hu; rfl
theorem one_cell {w : World} {B : Nat} {A : Option Addr} {D : List ByteArray} (h : Ar.Ls en1 1 w B A D) {i : Nat} {x : ByteArray} (hx : D[i]? = some x) : ∃ b o, A = some ⟨b, o, none⟩ ∧ b < B ∧ w.cell? ⟨b, o + i, none⟩ = some (.string x) := by
  obtain ⟨b, o, h1, h2, h3⟩ := h i x hx
  refine ⟨b, o, h1, h2, ?_⟩
  have := h3 0 (.string x) rfl
  rw [Nat.mul_one, Nat.add_zero] at this
  exact this
def has (s : ByteArray) (c : UInt8) : Bool := s.data.toList.contains c
theorem tl (s : ByteArray) : s.toList = s.data.toList := by rw [ByteArray.toList_eq]
theorem nb_eq (s : ByteArray) : nb s = (!s.toList.isEmpty && decide (s.toList.length ≤ 24) && !(s.toList == [46]) && !(s.toList == [46, 46]) && !has s 47 && !has s 0) := by
  unfold nb nm has; rw [tl]
theorem tl_len (s : ByteArray) : s.toList.length = s.size := by rw [tl, Array.length_toList]; rfl
theorem name_any (s : ByteArray) (w : World)
    (HC : ∀ c w, Calls Tryz.prog 126 #[.string s, .string ⟨#[c]⟩] w fun e w' => e = .returned (.bool (has s c)) ∧ w = w') :
    Calls Tryz.prog 80 #[.string s] w fun e w' => e = .returned (.bool (nb s)) ∧ w = w' := by
  have hn := nb_eq s
  rw [tl_len] at hn
  have H1 := Lib.hid (HC 47)
  have H2 := Lib.hid (HC 0)
  clear HC
  by_cases h1 : s.toList = []
  · have e1 : s.toList.isEmpty = true := by rw [h1]; rfl
    have HN := Lib.hid (show nb s = false by rw [hn, e1]; rfl)
    clear hn
    go_enter Tryz.func80, Tryz.ntmps80
    go_wp2
    go_ret
    exact ⟨by rw [HN.out]; rfl, rfl⟩
  · have e1 : s.toList.isEmpty = false := by cases h : s.toList with | nil => exact absurd h h1 | cons a l => rfl
    by_cases h2 : s.size ≤ 24
    · have d2 : decide (24 < (s.size : Int)) = false := by simp; omega
      by_cases h3 : s.toList = [46]
      · have e3 : (s.toList == [46]) = true := by rw [h3]; rfl
        have HN := Lib.hid (show nb s = false by rw [hn, e3]; simp)
        clear hn
        go_enter Tryz.func80, Tryz.ntmps80
        go_wp2
        go_ret
        exact ⟨by rw [HN.out]; rfl, rfl⟩
      · have e3 : (s.toList == [46]) = false := by simpa using h3
        by_cases h4 : s.toList = [46, 46]
        · have e4 : (s.toList == [46, 46]) = true := by rw [h4]; rfl
          have HN := Lib.hid (show nb s = false by rw [hn, e4]; simp)
          clear hn h4
          go_enter Tryz.func80, Tryz.ntmps80
          go_wp2
          go_ret
          exact ⟨by rw [HN.out]; rfl, rfl⟩
        · have e4 : (s.toList == [46, 46]) = false := by simpa using h4
          cases h5 : has s 47
          · cases h6 : has s 0
            all_goals
              have HN := Lib.hid (show nb s = _ by rw [hn, e1, e3, e4, h5, h6, decide_eq_true h2])
              rw [h5] at H1
              rw [h6] at H2
              clear hn h5 h6
              go_enter Tryz.func80, Tryz.ntmps80
              go_wp2_with (go_at_call 126; first | ((with_reducible refine (H1.out _).mono ?_); rintro e w' ⟨rfl, rfl⟩) | ((with_reducible refine (H2.out _).mono ?_); rintro e w' ⟨rfl, rfl⟩))
              go_ret
              exact ⟨by rw [HN.out]; rfl, rfl⟩
          · have HN := Lib.hid (show nb s = false by rw [hn, h5]; simp)
            rw [h5] at H1
            clear hn h5
            go_enter Tryz.func80, Tryz.ntmps80
            go_wp2_with (go_at_call 126; refine (H1.out _).mono ?_; rintro e w' ⟨rfl, rfl⟩)
            go_ret
            exact ⟨by rw [HN.out]; rfl, rfl⟩
    · have d2 : decide (24 < (s.size : Int)) = true := by simp; omega
      have HN := Lib.hid (show nb s = false by rw [hn, decide_eq_false h2]; simp)
      clear hn
      go_enter Tryz.func80, Tryz.ntmps80
      go_wp2
      go_ret
      exact ⟨by rw [HN.out]; rfl, rfl⟩
theorem has_iff {s : ByteArray} {c : UInt8} : has s c = true ↔ c ∈ s.data.toList := by unfold has; simp
theorem has_take {s : ByteArray} {c : UInt8} {i : Nat} (h : i < s.size) : (s.data.toList.take (i + 1)).contains c = ((s.data.toList.take i).contains c || (s[i] == c)) := by
  rw [List.take_succ_eq_append_getElem (by simpa using h), List.contains_eq_any_beq, List.contains_eq_any_beq, List.any_append]
  simp only [List.any_cons, List.any_nil, Bool.or_false]
  congr 1
  rw [Bool.eq_iff_iff, beq_iff_eq, beq_iff_eq]
  exact ⟨fun h => h.symm, fun h => h.symm⟩
theorem byte_ne {b c : UInt8} (h : (b == c) = false) : ((b.toNat : Int) == (c.toNat : Int)) = false := by
  rw [beq_eq_false_iff_ne] at h ⊢
  intro e
  apply h
  apply UInt8.toNat_inj.1
  omega
theorem byte_eq {b c : UInt8} (h : (b == c) = true) : ((b.toNat : Int) == (c.toNat : Int)) = true := by
  rw [beq_iff_eq] at h ⊢
  rw [h]
set_option maxHeartbeats 1000000 in
theorem refName_any (s : ByteArray) (w : World) (hs : s.size ≤ maxLen) :
    Calls Tryz.prog 185 #[.string s] w fun e w' => e = .returned (.bool (nb s)) ∧ w = w' := by
  unfold maxLen at hs
  have HQ := Lib.hid (nb_eq s)
  rw [tl_len] at HQ
  go_enter Tryz.func185, Tryz.ntmps185
  go_wp2
  go_loop [3] (fun v => ∃ i : Nat, i ≤ s.size ∧ v = .int .i64 i ∧ Hid ((s.data.toList.take i).contains 47 = false ∧ (s.data.toList.take i).contains 0 = false)) (fun v => s.size - (intOf v).toNat)
  case atStart => exact ⟨0, Nat.zero_le _, rfl, by simp, by simp⟩
  case round =>
    obtain ⟨i, hi, rfl, HI⟩ := hrel
    by_cases hlt : i < s.size
    · have h47 := has_take (c := 47) hlt
      have h0 := has_take (c := 0) hlt
      rw [(Hid.out HI).1, Bool.false_or] at h47
      rw [(Hid.out HI).2, Bool.false_or] at h0
      have mem : ∀ c, (s.data.toList.take (i + 1)).contains c = true → has s c = true := by
        intro c hc
        rw [has_iff]
        rw [List.contains_iff_mem] at hc
        exact List.mem_of_mem_take hc
      cases b47 : (s[i] == 47)
      · have c47 : ((s[i].toNat : Int) == 47) = false := byte_ne b47
        cases b0 : (s[i] == 0)
        · have c0 : ((s[i].toNat : Int) == 0) = false := byte_ne b0
          have HI2 := Lib.hid (show (s.data.toList.take (i + 1)).contains 47 = false ∧ (s.data.toList.take (i + 1)).contains 0 = false from ⟨h47.trans b47, h0.trans b0⟩)
          clear h47 h0 mem b47 b0 HI
          go_wp2
          go_round
          case rel => exact ⟨i + 1, by omega, by go_num, HI2⟩
          case measure => simp [intOf]; omega
        · have c0 : ((s[i].toNat : Int) == 0) = true := byte_eq b0
          have HN := Lib.hid (show nb s = false by rw [HQ.out, mem 0 (h0.trans b0)]; simp)
          clear h47 h0 mem b47 b0 HI
          go_wp2
          go_ret
          exact ⟨by rw [HN.out]; rfl, rfl⟩
      · have c47 : ((s[i].toNat : Int) == 47) = true := byte_eq b47
        have HN := Lib.hid (show nb s = false by rw [HQ.out, mem 47 (h47.trans b47)]; simp)
        clear h47 h0 mem b47 HI
        go_wp2
        go_ret
        exact ⟨by rw [HN.out]; rfl, rfl⟩
    · obtain rfl : i = s.size := by omega
      rw [List.take_of_length_le (by simp)] at HI
      have hq := HQ.out
      rw [show has s 47 = false from (Hid.out HI).1, show has s 0 = false from (Hid.out HI).2] at hq
      clear HI HQ
      by_cases h1 : s.toList = []
      · have e1 : s.toList.isEmpty = true := by rw [h1]; rfl
        have e1' : (!s.toList.isEmpty) = false := by rw [e1]; rfl
        have HN := Lib.hid (show nb s = false by rw [hq, e1]; rfl)
        clear hq
        go_wp2
        go_ret
        exact ⟨by rw [HN.out]; rfl, rfl⟩
      · have e1 : s.toList.isEmpty = false := by cases h : s.toList with | nil => exact absurd h h1 | cons a l => rfl
        have e1' : (!s.toList.isEmpty) = true := by rw [e1]; rfl
        by_cases h2 : s.size ≤ 24
        · have d2 : decide ((s.size : Int) ≤ 24) = true := by simp; omega
          rw [e1, decide_eq_true h2] at hq
          by_cases h3 : s.toList = [46]
          · have e3 : (s.toList == [46]) = true := by rw [h3]; rfl
            have HN := Lib.hid (show nb s = false by rw [hq, e3]; simp)
            clear hq
            go_wp2
            go_ret
            exact ⟨by rw [HN.out]; rfl, rfl⟩
          · have e3 : (s.toList == [46]) = false := by simpa using h3
            by_cases h4 : s.toList = [46, 46]
            · have e4 : (s.toList == [46, 46]) = true := by rw [h4]; rfl
              have HN := Lib.hid (show nb s = false by rw [hq, e4]; simp)
              clear hq h4
              go_wp2
              go_ret
              exact ⟨by rw [HN.out]; rfl, rfl⟩
            · have e4 : (s.toList == [46, 46]) = false := by simpa using h4
              have HN := Lib.hid (show nb s = true by rw [hq, e3, e4]; rfl)
              clear hq
              go_wp2
              go_ret
              exact ⟨by rw [HN.out]; rfl, rfl⟩
        · have d2 : decide ((s.size : Int) ≤ 24) = false := by simp; omega
          have HN := Lib.hid (show nb s = false by rw [hq, decide_eq_false h2]; simp)
          clear hq
          go_wp2
          go_ret
          exact ⟨by rw [HN.out]; rfl, rfl⟩
end Go.Proofs.YtjkmfonngbendaaGreatDoor.Ph
/- What package strings, and slices, answer at this seat, in this claim's words. -/
namespace Go.Proofs.YtjkmfonngbendaaGreatDoor.Ph
set_option linter.unusedVariables false
open Go.ChangeShapes Go.WideShapes Go.ChangeAt Go.RowKit
open Ar
theorem ib (c : UInt8) : ∀ l : List UInt8, decide (0 ≤ Lib.indexByte l c) = l.contains c
  | [] => rfl
  | b :: l => by
    have ih := ib c l
    have hg := Lib.indexByte_ge l c
    rw [List.contains_cons]
    unfold Lib.indexByte
    by_cases h : b = c
    · subst h
      simp
    · have h1 : (b == c) = false := by simpa using h
      have h2 : (c == b) = false := by simpa using fun e : c = b => h e.symm
      rw [h1, h2, Bool.false_or, ← ih]
      by_cases h3 : Lib.indexByte l c = -1
      · rw [h3]; rfl
      · have h4 : (Lib.indexByte l c == -1) = false := by simpa using h3
        rw [h4]
        simp only [Bool.false_eq_true, if_false]
        exact decide_eq_decide.2 (by omega)
theorem contains_any (s : ByteArray) (c : UInt8) (w : World) : Calls Tryz.prog 126 #[.string s, .string ⟨#[c]⟩] w fun e w' => e = .returned (.bool (has s c)) ∧ w = w' := by
  refine (Tryz.strings_Contains_one s c w).mono ?_
  rintro e w' ⟨rfl, rfl⟩
  exact ⟨by rw [ib]; rfl, rfl⟩
def slashed (p : ByteArray) : Bool := p.data.toList.head? == some 47
def behind (p : ByteArray) : ByteArray := if slashed p then p.extract 1 p.size else p
theorem pre_slash (l : List UInt8) : Lib.hasPrefix l [47] = (l.head? == some 47) := by
  cases l with
  | nil => rfl
  | cons a l =>
    show ((47 : UInt8) == a && true) = (some a == some 47)
    rw [Bool.and_true]
    by_cases h : a = 47
    · subst h; rfl
    · have h1 : ((47 : UInt8) == a) = false := by simpa using fun e : 47 = a => h e.symm
      rw [h1]
      exact (beq_eq_false_iff_ne.2 (fun e => h (by injection e))).symm
theorem cutPrefix_any (s : ByteArray) (w : World) : Calls Tryz.prog 137 #[.string s, .string ⟨#[47]⟩] w fun e w' => e = .returned (.tuple #[.string (behind s), .bool (slashed s)]) ∧ w = w' := by
  refine (Tryz.strings_CutPrefix s ⟨#[47]⟩ w).mono ?_
  rintro e w' ⟨rfl, rfl⟩
  refine ⟨?_, rfl⟩
  have h1 : Lib.hasPrefix s.data.toList [47] = slashed s := pre_slash _
  show Ending.returned (.tuple #[.string ⟨(Lib.trimPrefix s.data.toList [47]).toArray⟩, .bool (Lib.hasPrefix s.data.toList [47])]) = _
  rw [h1]
  congr 4
  unfold Lib.trimPrefix behind
  rw [h1]
  cases slashed s
  · rfl
  · simp only [if_true]
    congr 1
    apply ByteArray.ext
    apply Array.toList_inj.1
    rw [ByteArray.data_extract, Array.toList_extract, List.extract_eq_take_drop, List.take_of_length_le (by rw [List.length_drop, Array.length_toList]; exact Nat.le_refl _)]
    rfl
/-- the text that names make -/
def joB (D : List ByteArray) : ByteArray := ⟨(joi (D.map (·.data.toList))).toArray⟩
/-- the names of the second list begin with those of the first -/
def unB (D E : List ByteArray) : Bool := decide (E.take D.length = D)
end Go.Proofs.YtjkmfonngbendaaGreatDoor.Ph
/- Contracts of package inode: numbers, what a right inode is, what is told of it. -/
namespace Go.Proofs.YtjkmfonngbendaaGreatDoor.Ino
set_option linter.unusedVariables false
set_option linter.unusedSimpArgs false
open Go.ChangeShapes Go.WideShapes Go.ChangeAt Go.RowKit
open Pk (be num be_length num_be num_lt bs bs_size nB nE tN tR tE uN uOk uT uR uE xB xE number_any take_any text_any taketext_any)
open Ph (has contains_any tl tl_len nb)
/-- an inode, a key, as values -/
def cI (n : In) : List Value := [.int .u8 n.K, .int .u16 n.M, .int .u32 n.L, .int .u32 n.S, .string n.T]
def vI (n : In) : Value := .agg #[.int .u8 n.K, .int .u16 n.M, .int .u32 n.L, .int .u32 n.S, .string n.T]
def vK (k : Ky) : Value := .agg #[.int .u8 k.K, .int .u32 k.I, .string k.N, .int .u32 k.C]
theorem number_in (n k : Nat) (w : World) (h0 : n < 18446744073709551616) (h1 : 1 ≤ k) (h2 : k ≤ 8) (h : n < 256 ^ k) :
    Calls Tryz.prog 79 #[.int .u64 n, .int .i64 k] w fun e w' => e = .returned (.string (bs (be k n))) ∧ Below w.heap.size w w' := by
  have HC := Lib.hid (number_any n k w h0)
  rw [nB_of h1 h2 h] at HC
  clear h
  go_enter Tryz.func79, Tryz.ntmps79
  go_wp2_with (go_at_call 15; refine HC.out.mono ?_; rintro e w' ⟨rfl, hb⟩)
  go_ret
  exact ⟨rfl, hb⟩
theorem takeNumber_in (s : ByteArray) (k : Int) (w : World) (hs : s.size ≤ maxLen) :
    Calls Tryz.prog 164 #[.string s, .int .i64 k] w fun e w' => e = .returned (.tuple #[.int .u64 (tN s k), .string (tR s k)]) ∧ Below w.heap.size w w' := by
  have HC := Lib.hid (take_any s k w hs)
  go_enter Tryz.func164, Tryz.ntmps164
  go_wp2_with (go_at_call 150; refine HC.out.mono ?_; rintro e w' ⟨rfl, hb⟩)
  go_ret2
  exact ⟨rfl, hb⟩
theorem emp_iff (s : ByteArray) : s.toList.isEmpty = decide (s.size = 0) := by
  rw [Bool.eq_iff_iff, List.isEmpty_iff, decide_eq_true_iff]
  exact ⟨fun h => by rw [← tl_len, h]; rfl, fun h => List.eq_nil_of_length_eq_zero (by rw [tl_len]; exact h)⟩
/-- the walk's own words for 'empty' -/
theorem emp_of {s : ByteArray} {q : Bool} (h : decide (s.size = 0) = q) : s.toList.isEmpty = q ∧ (!s.toList.isEmpty) = !q := by rw [emp_iff, h]; exact ⟨rfl, rfl⟩
theorem emp_yes {s : ByteArray} (h : s.size = 0) : s.toList = [] := List.eq_nil_of_length_eq_zero (by rw [tl_len]; exact h)
theorem emp_no {s : ByteArray} (h : ¬ s.size = 0) : ¬ s.toList = [] := fun e => h (by rw [← tl_len, e]; rfl)
theorem target_in (s : ByteArray) (w : World) :
    Calls Tryz.prog 125 #[.string s] w fun e w' => e = .returned (.bool (tgt s)) ∧ w = w' := by
  by_cases h1 : s.size = 0
  · have HQ := Lib.hid (show tgt s = false by unfold tgt; rw [decide_eq_false (by omega)]; rfl)
    obtain ⟨e1, e2⟩ := emp_of (decide_eq_true h1)
    have e3 := emp_yes h1
    clear h1
    go_enter Tryz.func125, Tryz.ntmps125
    go_wp2
    go_ret
    exact ⟨by rw [HQ.out]; rfl, rfl⟩
  · obtain ⟨e1, e2⟩ := emp_of (decide_eq_false h1)
    have e3 := emp_no h1
    by_cases h2 : s.size ≤ 64
    · have d : decide ((s.size : Int) ≤ 64) = true := by simp; omega
      have HC := Lib.hid (contains_any s 0)
      have hq : tgt s = !has s 0 := by unfold tgt; rw [decide_eq_true (by omega), decide_eq_true h2]; rfl
      cases hz : has s 0
      all_goals
        rw [hz] at hq HC
        have HQ := Lib.hid hq
        clear hq hz h1
        go_enter Tryz.func125, Tryz.ntmps125
        go_wp2_with (go_at_call 126; refine (HC.out _).mono ?_; rintro e w' ⟨rfl, rfl⟩)
        go_ret
        exact ⟨by rw [HQ.out]; rfl, rfl⟩
    · have d : decide ((s.size : Int) ≤ 64) = false := by simp; omega
      have HQ := Lib.hid (show tgt s = false by unfold tgt; rw [decide_eq_false h2]; simp)
      clear h1
      go_enter Tryz.func125, Tryz.ntmps125
      go_wp2
      go_ret
      exact ⟨by rw [HQ.out]; rfl, rfl⟩
theorem eqz {a b : Nat} {q : Bool} (h : decide (a = b) = q) : ((a : Int) == (b : Int)) = q := by
  rw [← h, Bool.eq_iff_iff, beq_iff_eq, decide_eq_true_iff]; omega
theorem eqz0 {a : Nat} {q : Bool} (h : decide (a = 0) = q) : ((a : Int) == 0) = q := eqz (b := 0) h
theorem eqz1 {a : Nat} {q : Bool} (h : decide (a = 1) = q) : ((a : Int) == 1) = q := eqz (b := 1) h
theorem eqz2 {a : Nat} {q : Bool} (h : decide (a = 2) = q) : ((a : Int) == 2) = q := eqz (b := 2) h
theorem eqz3 {a : Nat} {q : Bool} (h : decide (a = 3) = q) : ((a : Int) == 3) = q := eqz (b := 3) h
theorem eqz4 {a : Nat} {q : Bool} (h : decide (a = 4) = q) : ((a : Int) == 4) = q := eqz (b := 4) h
theorem lez {a b : Nat} {q : Bool} (h : decide (a ≤ b) = q) : decide ((a : Int) ≤ (b : Int)) = q := by
  rw [← h]; exact decide_eq_decide.2 (by omega)
theorem lez1 {a : Nat} {q : Bool} (h : decide (1 ≤ a) = q) : decide ((1 : Int) ≤ (a : Int)) = q := lez (a := 1) h
theorem lezM {a : Nat} {q : Bool} (h : decide (a ≤ 65536) = q) : decide ((a : Int) ≤ 65536) = q := lez (b := 65536) h
set_option maxRecDepth 100000 in
set_option maxHeartbeats 2000000 in
theorem right_in (n : In) (hl : n.lim) (w : World) :
    Calls Tryz.prog 77 #[vI n] w fun e w' => e = .returned (.bool (okI n)) ∧ Below w.heap.size w w' := by
  obtain ⟨K, M, L, S, T⟩ := n
  obtain ⟨l1, l2, l3, l4⟩ := hl
  dsimp only at l1 l2 l3 l4
  unfold vI
  dsimp only
  cases k1 : decide (K = 1)
  · have K1 := eqz1 k1
    have k1' := of_decide_eq_false k1
    cases k2 : decide (K = 2)
    · have K2 := eqz2 k2
      have k2' := of_decide_eq_false k2
      cases k3 : decide (K = 3)
      · have K3 := eqz3 k3
        have k3' := of_decide_eq_false k3
        have hq : okI ⟨K, M, L, S, T⟩ = false := by unfold okI; dsimp only; rw [if_neg k1', if_neg k2', if_neg k3']
        have HQ := Lib.hid (show okI ⟨K, M, L, S, T⟩ = false by rw [hq])
        clear hq k1 k2 k3 k1' k2' k3'
        go_enter Tryz.func77, Tryz.ntmps77
        go_wp2
        go_ret
        exact ⟨by rw [HQ.out]; rfl, (Below.refl _ _).alloc (Nat.le_refl _) _⟩
      · have K3 := eqz3 k3
        have k3' := of_decide_eq_true k3
        have hq : okI ⟨K, M, L, S, T⟩ = (decide (1 ≤ L) && tgt T && decide (S = T.size)) := by unfold okI; dsimp only; rw [if_neg k1', if_neg k2', if_pos k3']
        clear k1 k2 k3 k1' k2' k3'
        have HC := Lib.hid (target_in T)
        cases a1 : decide (1 ≤ L)
        · have A1 := lez1 a1
          rw [a1] at hq
          have HQ := Lib.hid (show okI ⟨K, M, L, S, T⟩ = false by rw [hq]; rfl)
          clear hq a1
          go_enter Tryz.func77, Tryz.ntmps77
          go_wp2
          go_ret
          exact ⟨by rw [HQ.out]; rfl, (Below.refl _ _).alloc (Nat.le_refl _) _⟩
        · have A1 := lez1 a1
          rw [a1] at hq
          cases a2 : tgt T
          · rw [a2] at hq HC
            have HQ := Lib.hid (show okI ⟨K, M, L, S, T⟩ = false by rw [hq]; rfl)
            clear hq a1 a2
            go_enter Tryz.func77, Tryz.ntmps77
            go_wp2_with (go_at_call 125; refine (HC.out _).mono ?_; rintro e w' ⟨rfl, rfl⟩)
            go_ret
            exact ⟨by rw [HQ.out]; rfl, (Below.refl _ _).alloc (Nat.le_refl _) _⟩
          · rw [a2] at hq HC
            have hT := (tgt_size a2).2
            cases a3 : decide (S = T.size)
            · have A3 := eqz a3
              rw [a3] at hq
              have HQ := Lib.hid (show okI ⟨K, M, L, S, T⟩ = false by rw [hq]; rfl)
              clear hq a1 a2 a3
              go_enter Tryz.func77, Tryz.ntmps77
              go_wp2_with (go_at_call 125; refine (HC.out _).mono ?_; rintro e w' ⟨rfl, rfl⟩)
              go_ret
              exact ⟨by rw [HQ.out]; rfl, (Below.refl _ _).alloc (Nat.le_refl _) _⟩
            · have A3 := eqz a3
              rw [a3] at hq
              have HQ := Lib.hid (show okI ⟨K, M, L, S, T⟩ = true by rw [hq]; rfl)
              clear hq a1 a2 a3
              go_enter Tryz.func77, Tryz.ntmps77
              go_wp2_with (go_at_call 125; refine (HC.out _).mono ?_; rintro e w' ⟨rfl, rfl⟩)
              go_ret
              exact ⟨by rw [HQ.out]; rfl, (Below.refl _ _).alloc (Nat.le_refl _) _⟩
    · have K2 := eqz2 k2
      have k2' := of_decide_eq_true k2
      have hq : okI ⟨K, M, L, S, T⟩ = (decide (1 ≤ L) && decide (S ≤ 65536) && decide (T.size = 0)) := by unfold okI; dsimp only; rw [if_neg k1', if_pos k2']
      clear k1 k2 k1' k2'
      cases a1 : decide (1 ≤ L)
      · have A1 := lez1 a1
        rw [a1] at hq
        have HQ := Lib.hid (show okI ⟨K, M, L, S, T⟩ = false by rw [hq]; rfl)
        clear hq a1
        go_enter Tryz.func77, Tryz.ntmps77
        go_wp2
        go_ret
        exact ⟨by rw [HQ.out]; rfl, (Below.refl _ _).alloc (Nat.le_refl _) _⟩
      · have A1 := lez1 a1
        rw [a1] at hq
        cases a2 : decide (S ≤ 65536)
        · have A2 := lezM a2
          rw [a2] at hq
          have HQ := Lib.hid (show okI ⟨K, M, L, S, T⟩ = false by rw [hq]; rfl)
          clear hq a1 a2
          go_enter Tryz.func77, Tryz.ntmps77
          go_wp2
          go_ret
          exact ⟨by rw [HQ.out]; rfl, (Below.refl _ _).alloc (Nat.le_refl _) _⟩
        · have A2 := lezM a2
          rw [a2] at hq
          cases a3 : decide (T.size = 0)
          · obtain ⟨A3, A4⟩ := emp_of a3
            have A5 := emp_no (of_decide_eq_false a3)
            rw [a3] at hq
            have HQ := Lib.hid (show okI ⟨K, M, L, S, T⟩ = false by rw [hq]; rfl)
            clear hq a1 a2 a3
            go_enter Tryz.func77, Tryz.ntmps77
            go_wp2
            go_ret
            exact ⟨by rw [HQ.out]; rfl, (Below.refl _ _).alloc (Nat.le_refl _) _⟩
          · obtain ⟨A3, A4⟩ := emp_of a3
            have A5 := emp_yes (of_decide_eq_true a3)
            rw [a3] at hq
            have HQ := Lib.hid (show okI ⟨K, M, L, S, T⟩ = true by rw [hq]; rfl)
            clear hq a1 a2 a3
            go_enter Tryz.func77, Tryz.ntmps77
            go_wp2
            go_ret
            exact ⟨by rw [HQ.out]; rfl, (Below.refl _ _).alloc (Nat.le_refl _) _⟩
  · have K1 := eqz1 k1
    have k1' := of_decide_eq_true k1
    have hq : okI ⟨K, M, L, S, T⟩ = (decide (L = 1) && decide (S = 0) && decide (T.size = 0)) := by unfold okI; dsimp only; rw [if_pos k1']
    clear k1 k1'
    cases a1 : decide (L = 1)
    · have A1 := eqz1 a1
      rw [a1] at hq
      have HQ := Lib.hid (show okI ⟨K, M, L, S, T⟩ = false by rw [hq]; rfl)
      clear hq a1
      go_enter Tryz.func77, Tryz.ntmps77
      go_wp2
      go_ret
      exact ⟨by rw [HQ.out]; rfl, (Below.refl _ _).alloc (Nat.le_refl _) _⟩
    · have A1 := eqz1 a1
      rw [a1] at hq
      cases a2 : decide (S = 0)
      · have A2 := eqz0 a2
        rw [a2] at hq
        have HQ := Lib.hid (show okI ⟨K, M, L, S, T⟩ = false by rw [hq]; rfl)
        clear hq a1 a2
        go_enter Tryz.func77, Tryz.ntmps77
        go_wp2
        go_ret
        exact ⟨by rw [HQ.out]; rfl, (Below.refl _ _).alloc (Nat.le_refl _) _⟩
      · have A2 := eqz0 a2
        rw [a2] at hq
        cases a3 : decide (T.size = 0)
        · obtain ⟨A3, A4⟩ := emp_of a3
          have A5 := emp_no (of_decide_eq_false a3)
          rw [a3] at hq
          have HQ := Lib.hid (show okI ⟨K, M, L, S, T⟩ = false by rw [hq]; rfl)
          clear hq a1 a2 a3
          go_enter Tryz.func77, Tryz.ntmps77
          go_wp2
          go_ret
          exact ⟨by rw [HQ.out]; rfl, (Below.refl _ _).alloc (Nat.le_refl _) _⟩
        · obtain ⟨A3, A4⟩ := emp_of a3
          have A5 := emp_yes (of_decide_eq_true a3)
          rw [a3] at hq
          have HQ := Lib.hid (show okI ⟨K, M, L, S, T⟩ = true by rw [hq]; rfl)
          clear hq a1 a2 a3
          go_enter Tryz.func77, Tryz.ntmps77
          go_wp2
          go_ret
          exact ⟨by rw [HQ.out]; rfl, (Below.refl _ _).alloc (Nat.le_refl _) _⟩
/-- which error -/
def chI (n : In) : Int := if okI n then 0 else 4
theorem check_in (n : In) (hl : n.lim) (w : World) :
    Calls Tryz.prog 36 #[vI n] w fun e w' => e = .returned (.int .i64 (chI n)) ∧ Below w.heap.size w w' := by
  obtain ⟨K, M, L, S, T⟩ := n
  have HC := Lib.hid (right_in ⟨K, M, L, S, T⟩ hl)
  have B0 := Lib.hid ((Below.refl w.heap.size w).alloc (Nat.le_refl _) (.cells #[.int .u8 K, .int .u16 M, .int .u32 L, .int .u32 S, .string T] 33))
  unfold vI
  dsimp only
  cases hq : okI ⟨K, M, L, S, T⟩
  all_goals
    rw [hq] at HC
    have HQ := Lib.hid (show chI ⟨K, M, L, S, T⟩ = _ by unfold chI; rw [hq])
    clear hq
    go_enter Tryz.func36, Tryz.ntmps36
    go_wp2_with (go_at_call 77; refine (HC.out _).mono ?_; rintro e w' ⟨rfl, hb⟩)
    go_ret
    exact ⟨by rw [HQ.out]; rfl, B0.out.trans (hb.mono B0.out.size)⟩
end Go.Proofs.YtjkmfonngbendaaGreatDoor.Ino
/- A volume in memory: its maps, its parts, its cells. -/
namespace Go.Proofs.YtjkmfonngbendaaGreatDoor.Di
set_option linter.unusedVariables false
set_option linter.unusedSimpArgs false
set_option maxRecDepth 100000
open Go.ChangeShapes Go.WideShapes Go.ChangeAt Go.RowKit Go.WideMaps Go.Maps
open Ino
open Mq (MT)
theorem u32_wf {n : Nat} (h : n < 4294967296) : (Lit.int .u32 (n : Int)).wf = true := by
  have h1 : IntKind.u32.min = 0 := by decide
  have h2 : IntKind.u32.max = 4294967295 := by decide
  simp [Lit.wf, h1, h2]
  omega
theorem u8_wf {n : Nat} (h : n < 256) : (Lit.int .u8 (n : Int)).wf = true := by
  have h1 : IntKind.u8.min = 0 := by decide
  have h2 : IntKind.u8.max = 255 := by decide
  simp [Lit.wf, h1, h2]
  omega
theorem keyLits_int {P : Program} {m : Nat} {t : TypeId} {q : IntKind} {n : Int} (ht : P.underlying t = some (.int q)) (hw : (Lit.int q n).wf = true) : P.keyLits (m + 1) t [.int q n] = some [.int q n] := by
  unfold Program.keyLits
  rw [ht]
  simp [hw]
theorem keyLits_str {P : Program} {m : Nat} {t : TypeId} {s : ByteArray} (ht : P.underlying t = some .string) (hs : s.size ≤ maxLen) : P.keyLits (m + 1) t [.string s] = some [.string s.data.toList] := by
  unfold Program.keyLits
  rw [ht]
  simp [hs]
def kokK (x : Ky) : Prop := x.lim ∧ x.N.size ≤ maxLen
theorem key_some (x : Ky) (h : kokK x) : ∃ l, keyOf Tryz.prog 37 (vK x) = some l := by
  obtain ⟨⟨h1, h2, h3⟩, h4⟩ := h
  obtain ⟨m, hm⟩ : ∃ m, Tryz.prog.types.size = m + 1 := by
    have h0 : decide (0 < Tryz.prog.types.size) = true := by kernel_rfl
    have := of_decide_eq_true h0
    exact ⟨Tryz.prog.types.size - 1, by omega⟩
  have e1 : Tryz.prog.cellsOf 35 = 1 := by kernel_rfl
  have e2 : Tryz.prog.cellsOf 22 = 1 := by kernel_rfl
  have e3 : Tryz.prog.cellsOf 9 = 1 := by kernel_rfl
  have e4 : Tryz.prog.cellsOf 37 = 4 := by kernel_rfl
  have hk : Tryz.prog.keyType 37 = true := by kernel_rfl
  unfold keyOf
  rw [Tryz.underlying37]
  dsimp only
  have hf : (vK x).formed Tryz.prog 37 = true := by
    unfold vK Value.formed
    rw [Tryz.underlying37]
    dsimp only
    rw [e4]; rfl
  rw [hk, hf, hm]
  unfold Program.keyLits
  rw [Tryz.underlying37]
  simp only [vK, Value.cells]
  rw [e4]
  simp [e1, e2, e3, keyLits_int Tryz.underlying35 (u8_wf h1), keyLits_int Tryz.underlying22 (u32_wf h2), keyLits_int Tryz.underlying22 (u32_wf h3), keyLits_str Tryz.underlying9 h4]
theorem keyedK : Keyed Tryz.prog 37 := Keyed.of_law (deep_law (m := 3) (by decide) (by kernel_rfl) (by kernel_rfl) (by rw [Tryz.underlying37]))
theorem keyedU : Keyed Tryz.prog 22 := int_keyed Tryz.underlying22
theorem keyU (x : Nat) (h : x < 4294967296) : ∃ l, keyOf Tryz.prog 22 (.int .u32 x) = some l := ⟨_, keyOf_int_mk Tryz.underlying22 (u32_wf h)⟩
theorem nat_inj (q : IntKind) (x y : Nat) (h : Value.int q x = Value.int q y) : x = y := by cases h; rfl
theorem vI_inj (x y : In) (h : vI x = vI y) : x = y := by
  obtain ⟨a1, a2, a3, a4, a5⟩ := x; obtain ⟨b1, b2, b3, b4, b5⟩ := y
  simp [vI] at h
  obtain ⟨h1, h2, h3, h4, h5⟩ := h
  rw [h5, Int.ofNat.inj h1, Int.ofNat.inj h2, Int.ofNat.inj h3, Int.ofNat.inj h4]
theorem vK_inj (x y : Ky) (h : vK x = vK y) : x = y := by
  obtain ⟨a1, a2, a3, a4⟩ := x; obtain ⟨b1, b2, b3, b4⟩ := y
  simp [vK] at h
  obtain ⟨h1, h2, h3, h4⟩ := h
  rw [h3, Int.ofNat.inj h1, Int.ofNat.inj h2, Int.ofNat.inj h4]
theorem zeroU (w : World) : (zeroValue 22).run Tryz.prog w = .ok (.int .u32 0) w := by kernel_rfl
theorem zeroI (w : World) : (zeroValue 33).run Tryz.prog w = .ok (.agg #[.int .u8 0, .int .u16 0, .int .u32 0, .int .u32 0, .string ⟨#[]⟩]) w := by kernel_rfl
theorem zeroS (w : World) : (zeroValue 83).run Tryz.prog w = .ok (.agg #[]) w := by kernel_rfl
def mI : MT Tryz.prog Nat In := ⟨95, 22, 33, fun x => .int .u32 x, vI, zIn, fun x => x < 4294967296, Tryz.underlying95, keyedU, zeroI, nat_inj _, vI_inj, keyU⟩
def mE : MT Tryz.prog Ky Nat := ⟨96, 37, 22, vK, fun x => .int .u32 x, 0, kokK, Tryz.underlying96, keyedK, zeroU, vK_inj, nat_inj _, key_some⟩
def mN : MT Tryz.prog Nat Nat := ⟨97, 22, 22, fun x => .int .u32 x, fun x => .int .u32 x, 0, fun x => x < 4294967296, Tryz.underlying97, keyedU, zeroU, nat_inj _, nat_inj _, keyU⟩
def mU : MT Tryz.prog Nat Unit := ⟨247, 22, 83, fun x => .int .u32 x, fun _ => .agg #[], (), fun x => x < 4294967296, Tryz.underlying247, keyedU, zeroS, nat_inj _, fun _ _ _ => rfl, keyU⟩
section
variable {w : World} {b n j : Nat}
theorem lookN {F : Nat → Option Nat} (h : mN.At w b n F) (hj : j < 4294967296) : (Instr.lookup 97 (.map (some b)) (.int .u32 (j : Int)) false).run Tryz.prog w = .ok (.int .u32 (((F j).getD 0 : Nat) : Int)) w := h.look hj
theorem lookI {F : Nat → Option In} (h : mI.At w b n F) (hj : j < 4294967296) : (Instr.lookup 95 (.map (some b)) (.int .u32 (j : Int)) false).run Tryz.prog w = .ok (vI ((F j).getD zIn)) w := h.look hj
theorem lookI_ok {F : Nat → Option In} (h : mI.At w b n F) (hj : j < 4294967296) : (Instr.lookup 95 (.map (some b)) (.int .u32 (j : Int)) true).run Tryz.prog w = .ok (.tuple #[vI ((F j).getD zIn), .bool (F j).isSome]) w := h.look_ok hj
theorem lookE {F : Ky → Option Nat} (h : mE.At w b n F) {k : Ky} (hk : kokK k) : (Instr.lookup 96 (.map (some b)) (vK k) false).run Tryz.prog w = .ok (.int .u32 (((F k).getD 0 : Nat) : Int)) w := h.look hk
theorem lookE_ok {F : Ky → Option Nat} (h : mE.At w b n F) {k : Ky} (hk : kokK k) : (Instr.lookup 96 (.map (some b)) (vK k) true).run Tryz.prog w = .ok (.tuple #[.int .u32 (((F k).getD 0 : Nat) : Int), .bool (F k).isSome]) w := h.look_ok hk
theorem lookU_ok {F : Nat → Option Unit} (h : mU.At w b n F) (hj : j < 4294967296) : (Instr.lookup 247 (.map (some b)) (.int .u32 (j : Int)) true).run Tryz.prog w = .ok (.tuple #[.agg #[], .bool (F j).isSome]) w := h.look_ok hj
/-! the same in the world behind a draw, spelled as the walk has it -/
theorem lookN_d {F : Nat → Option Nat} (h : mN.At w b n F) (hj : j < 4294967296) : (Instr.lookup 97 (.map (some b)) (.int .u32 (j : Int)) false).run Tryz.prog w.drew = .ok (.int .u32 (((F j).getD 0 : Nat) : Int)) w.drew := lookN (w := w.drew) (h.keep rfl) hj
theorem lookI_d {F : Nat → Option In} (h : mI.At w b n F) (hj : j < 4294967296) : (Instr.lookup 95 (.map (some b)) (.int .u32 (j : Int)) false).run Tryz.prog w.drew = .ok (vI ((F j).getD zIn)) w.drew := lookI (w := w.drew) (h.keep rfl) hj
theorem lookE_d {F : Ky → Option Nat} (h : mE.At w b n F) {k : Ky} (hk : kokK k) : (Instr.lookup 96 (.map (some b)) (vK k) false).run Tryz.prog w.drew = .ok (.int .u32 (((F k).getD 0 : Nat) : Int)) w.drew := lookE (w := w.drew) (h.keep rfl) hk
theorem lookE_okd {F : Ky → Option Nat} (h : mE.At w b n F) {k : Ky} (hk : kokK k) : (Instr.lookup 96 (.map (some b)) (vK k) true).run Tryz.prog w.drew = .ok (.tuple #[.int .u32 (((F k).getD 0 : Nat) : Int), .bool (F k).isSome]) w.drew := lookE_ok (w := w.drew) (h.keep rfl) hk
end
theorem allU (v : Value) (l : Lit) (h : keyOf Tryz.prog 22 v = some l) : ∃ x : Nat, v = .int .u32 x ∧ x < 4294967296 := by
  obtain ⟨x, rfl, _, hw⟩ := Maps.keyOf_int_inv Tryz.underlying22 h
  have h1 : IntKind.u32.min = 0 := by decide
  have h2 : IntKind.u32.max = 4294967295 := by decide
  simp [Lit.wf, h1, h2] at hw
  exact ⟨x.toNat, by congr 1; omega, by omega⟩
/-- the numbers that a volume has are no greater than may be -/
structure VoOk (s : Vo) : Prop where
  ino : ∀ i n, s.ino i = some n → n.lim ∧ n.T.size ≤ maxLen
  ent : ∀ k j, s.ent k = some j → j < 4294967296
  nmd : ∀ i, s.nmd i < 4294967296
  abv : ∀ i, s.abv i < 4294967296
/-- the four maps of a volume, in four blocks -/
structure Ms (w : World) (bi be bn ba N : Nat) (s : Vo) : Prop where
  i : mI.At w bi N s.ino
  e : mE.At w be N s.ent
  n : ∃ F, mN.At w bn N F ∧ ∀ x, s.nmd x = (F x).getD 0
  a : ∃ F, mN.At w ba N F ∧ ∀ x, s.abv x = (F x).getD 0
  ok : VoOk s
/-- nothing has turned but what stands in some blocks; w' has all that w had -/
structure Off (X : Nat → Prop) (w w' : World) : Prop where
  os : w'.os = w.os
  tape : w'.tape = w.tape
  output : w'.output = w.output
  size : w.heap.size ≤ w'.heap.size
  block : ∀ j, j < w.heap.size → ¬ X j → w'.heap[j]? = w.heap[j]?
theorem Off.refl (X : Nat → Prop) (w : World) : Off X w w := ⟨rfl, rfl, rfl, Nat.le_refl _, fun _ _ _ => rfl⟩
theorem Off.trans {X : Nat → Prop} {a b c : World} (h : Off X a b) (k : Off X b c) : Off X a c := ⟨k.os.trans h.os, k.tape.trans h.tape, k.output.trans h.output, Nat.le_trans h.size k.size, fun j hj hx => (k.block j (Nat.lt_of_lt_of_le hj h.size) hx).trans (h.block j hj hx)⟩
theorem Off.of_below {X : Nat → Prop} {w w' : World} (h : Below w.heap.size w w') : Off X w w' := ⟨h.os, h.tape, h.output, h.size, fun j hj _ => h.block j hj⟩
theorem Off.of_grown {X : Nat → Prop} {w w' : World} {b : Nat} (h : w.grownBy w' (some b)) (hb : X b) : Off X w w' := ⟨h.os, h.tape, h.output, h.size, fun j hj hx => h.block j hj fun e => by cases e; exact hx hb⟩
theorem Off.below {X : Nat → Prop} {B : Nat} {w w' : World} (h : Off X w w') (hB : B ≤ w.heap.size) (hX : ∀ j, X j → B ≤ j) : Below B w w' := ⟨h.os, h.tape, h.output, h.size, fun j hj => h.block j (Nat.lt_of_lt_of_le hj hB) fun hx => by have := hX j hx; omega⟩
/-- the cells of a volume -/
def VC (w : World) (g : Nat) (it o1 o2 o3 rv pv m1 m2 m3 m4 : Value) : Prop := w.heap[g]? = some (.cells #[it, o1, o2, o3, rv, pv, m1, m2, m3, m4] 99 (0, 0))
/-- a part, as it lies in memory -/
def encP (p : Pt) : List Value := [.int .u8 p.k.K, .int .u32 p.k.I, .string p.k.N, .int .u32 p.k.C, .string p.v]
theorem encP_len (p : Pt) : (encP p).length = 5 := rfl
theorem encP_one (p : Pt) : ∀ u ∈ encP p, u.oneCell' = true := by
  intro u hu
  simp only [encP, List.mem_cons, List.not_mem_nil, or_false] at hu
  rcases hu with rfl | rfl | rfl | rfl | rfl <;> rfl
def vP (p : Pt) : Value := .agg (encP p).toArray
def XM (bi be bn ba j : Nat) : Prop := j = bi ∨ j = be ∨ j = bn ∨ j = ba
/-- a volume at work -/
structure VW (w : World) (g bi be bn ba N : Nat) (it o1 o2 o3 rv pv : Value) (s : Vo) : Prop where
  c : VC w g it o1 o2 o3 rv pv (.map (some bi)) (.map (some be)) (.map (some bn)) (.map (some ba))
  m : Ms w bi be bn ba N s
  o : g < bi ∧ bi < be ∧ be < bn ∧ bn < ba
variable {w w' : World} {g bi be bn ba N : Nat} {it o1 o2 o3 rv pv m1 m2 m3 m4 : Value} {s s' : Vo}
theorem VC.keep (h : VC w g it o1 o2 o3 rv pv m1 m2 m3 m4) (e : w'.heap[g]? = w.heap[g]?) : VC w' g it o1 o2 o3 rv pv m1 m2 m3 m4 := e.trans h
theorem VC.lt (h : VC w g it o1 o2 o3 rv pv m1 m2 m3 m4) : g < w.heap.size := (Array.getElem?_eq_some_iff.1 h).1
theorem VC.cells (h : VC w g it o1 o2 o3 rv pv m1 m2 m3 m4) : w.cell? ⟨g, 0, none⟩ = some it ∧ w.cell? ⟨g, 4, none⟩ = some rv ∧ w.cell? ⟨g, 5, none⟩ = some pv ∧ w.cell? ⟨g, 6, none⟩ = some m1 ∧ w.cell? ⟨g, 7, none⟩ = some m2 ∧ w.cell? ⟨g, 8, none⟩ = some m3 ∧ w.cell? ⟨g, 9, none⟩ = some m4 :=
  ⟨cell_of_row _ _ 0 _ _ _ h, cell_of_row _ _ 4 _ _ _ h, cell_of_row _ _ 5 _ _ _ h, cell_of_row _ _ 6 _ _ _ h, cell_of_row _ _ 7 _ _ _ h, cell_of_row _ _ 8 _ _ _ h, cell_of_row _ _ 9 _ _ _ h⟩
theorem Ms.keep (h : Ms w bi be bn ba N s) (e : ∀ j, XM bi be bn ba j → w'.heap[j]? = w.heap[j]?) : Ms w' bi be bn ba N s := by
  obtain ⟨h1, h2, ⟨F, h3, h4⟩, ⟨G, h5, h6⟩, h7⟩ := h
  exact ⟨h1.keep (e _ (.inl rfl)), h2.keep (e _ (.inr (.inl rfl))), ⟨F, h3.keep (e _ (.inr (.inr (.inl rfl)))), h4⟩, ⟨G, h5.keep (e _ (.inr (.inr (.inr rfl)))), h6⟩, h7⟩
theorem Ms.lt (h : Ms w bi be bn ba N s) : bi < w.heap.size ∧ be < w.heap.size ∧ bn < w.heap.size ∧ ba < w.heap.size := by
  obtain ⟨h1, h2, ⟨F, h3, h4⟩, ⟨G, h5, h6⟩, h7⟩ := h
  exact ⟨h1.lt, h2.lt, h3.lt, h5.lt⟩
theorem VW.go (h : VW w g bi be bn ba N it o1 o2 o3 rv pv s) (hb : Below w.heap.size w w') : VW w' g bi be bn ba N it o1 o2 o3 rv pv s := by
  have hl := h.m.lt
  refine ⟨h.c.keep (hb.block _ h.c.lt), h.m.keep fun j hj => hb.block j ?_, h.o⟩
  rcases hj with rfl | rfl | rfl | rfl
  · exact hl.1
  · exact hl.2.1
  · exact hl.2.2.1
  · exact hl.2.2.2
theorem VW.drew (h : VW w g bi be bn ba N it o1 o2 o3 rv pv s) : VW w.drew g bi be bn ba N it o1 o2 o3 rv pv s := h.go (Below.refl _ _).drew
theorem VW.off (h : VW w g bi be bn ba N it o1 o2 o3 rv pv s) : ¬ XM bi be bn ba g := by
  have := h.o
  unfold XM
  omega
end Go.Proofs.YtjkmfonngbendaaGreatDoor.Di
/- Contracts of package inode: an inode's bytes, there and back. -/
namespace Go.Proofs.YtjkmfonngbendaaGreatDoor.Ino
set_option linter.unusedVariables false
set_option linter.unusedSimpArgs false
open Go.ChangeShapes Go.WideShapes Go.ChangeAt Go.RowKit
open Rg
open Pk (be num be_length num_be num_lt bs bs_size nB nE tN tR tE uN uOk uT uR uE xB xE number_any take_any text_any taketext_any xB_size)
open Ph (has contains_any tl tl_len nb)
theorem box_cell (w : World) (cs : Array Value) (t : TypeId) (i : Nat) {v : Value} (hv : cs[i]? = some v) : (w.alloc (.cells cs t)).cell? ⟨w.heap.size, i, none⟩ = some v :=
  (cell_of_row (w.alloc (.cells cs t)) w.heap.size i cs t (0, 0) (heap_alloc_new w _)).trans hv
theorem u64_id {n : Nat} (h : n < 18446744073709551616) : IntKind.u64.wrap (n : Int) = n := by rw [IntKind.wrap_u64]; omega
set_option maxRecDepth 100000 in
set_option maxHeartbeats 2000000 in
theorem written_in (n : In) (hl : n.lim) (ht : n.T.size ≤ 65535) (w : World) :
    Calls Tryz.prog 37 #[vI n] w fun e w' => e = .returned (.string (wrI n)) ∧ Below w.heap.size w w' := by
  obtain ⟨K, M, L, S, T⟩ := n
  obtain ⟨l1, l2, l3, l4⟩ := hl
  dsimp only at l1 l2 l3 l4 ht
  have HX := Lib.hid (xB_size ht)
  unfold vI wrI
  dsimp only
  have C0 := box_cell w #[.int .u8 K, .int .u16 M, .int .u32 L, .int .u32 S, .string T] 33 0 rfl
  have C1 := box_cell w #[.int .u8 K, .int .u16 M, .int .u32 L, .int .u32 S, .string T] 33 1 rfl
  have C2 := box_cell w #[.int .u8 K, .int .u16 M, .int .u32 L, .int .u32 S, .string T] 33 2 rfl
  have C3 := box_cell w #[.int .u8 K, .int .u16 M, .int .u32 L, .int .u32 S, .string T] 33 3 rfl
  have C4 := box_cell w #[.int .u8 K, .int .u16 M, .int .u32 L, .int .u32 S, .string T] 33 4 rfl
  have B0 := Lib.hid ((Below.refl w.heap.size w).alloc (Nat.le_refl _) (.cells #[.int .u8 K, .int .u16 M, .int .u32 L, .int .u32 S, .string T] 33))
  have hsz : (w.alloc (.cells #[.int .u8 K, .int .u16 M, .int .u32 L, .int .u32 S, .string T] 33)).heap.size = w.heap.size + 1 := by simp
  have HZ := Lib.hid hsz
  clear hsz
  go_enter Tryz.func37, Tryz.ntmps37
  go_wp2_with fail
  change Calls _ _ _ (w.alloc (.cells #[.int .u8 K, .int .u16 M, .int .u32 L, .int .u32 S, .string T] 33)) _
  generalize hb0 : w.heap.size = b0 at *
  generalize w.alloc (.cells #[.int .u8 K, .int .u16 M, .int .u32 L, .int .u32 S, .string T] 33) = W at *
  refine (text_any T W).mono ?_
  rintro e w1 ⟨rfl, hb⟩
  have hbl0 : b0 < W.heap.size := by rw [HZ.out]; omega
  have D0 := (Below.cell hb (p := ⟨b0, 0, none⟩) hbl0).trans C0
  have D1 := (Below.cell hb (p := ⟨b0, 1, none⟩) hbl0).trans C1
  have D2 := (Below.cell hb (p := ⟨b0, 2, none⟩) hbl0).trans C2
  have D3 := (Below.cell hb (p := ⟨b0, 3, none⟩) hbl0).trans C3
  have hbl : b0 < w1.heap.size := by have := hb.size; omega
  have B1 := Lib.hid (B0.out.trans (hb.mono (by rw [HZ.out]; omega)))
  have HB0 := Lib.hid hb0
  clear C0 C1 C2 C3 C4 hb B0 HZ hb0
  obtain ⟨t, htt⟩ : ∃ t, xB T = t := ⟨_, rfl⟩
  rw [htt] at HX ⊢
  have hts : t.size ≤ 65537 := by have := HX.out; omega
  have HT := Lib.hid htt
  clear htt
  have z1 : (bs (be 1 K)).size = 1 := by rw [bs_size, be_length]
  have z2 : (bs (be 2 M)).size = 2 := by rw [bs_size, be_length]
  have z3 : (bs (be 4 L)).size = 4 := by rw [bs_size, be_length]
  have z4 : (bs (be 4 S)).size = 4 := by rw [bs_size, be_length]
  go_wp2_with fail
  refine wp_region_G (fun w' => Below w1.heap.size w1 w') (by kernel_rfl) (by kernel_rfl) (Below.refl _ _).drew ?_
  refine wpG_val (.pointer (some ⟨b0, 0, none⟩)) rfl (by rfl) (fun w' hSw => by go_simp) ?_
  simp only [List.setIfInBounds_toArray, List.set_cons_zero, List.set_cons_succ]
  refine wpG_val (.int .u8 K) rfl (by rfl) (fun w' hSw => by have c := (Below.cell hSw (p := ⟨b0, 0, none⟩) hbl).trans D0; go_simp) ?_
  simp only [List.setIfInBounds_toArray, List.set_cons_zero, List.set_cons_succ]
  refine wpG_val (.int .u64 K) rfl (by rfl) (fun w' hSw => by have u := u64_id (n := K) (by omega); go_simp) ?_
  simp only [List.setIfInBounds_toArray, List.set_cons_zero, List.set_cons_succ]
  refine wpG_call (.string (bs (be 1 K))) 79 #[.int .u64 K, .int .i64 1] rfl (by rfl) (fun w' => by go_simp) (fun w' hSw => (number_in K 1 w' (by omega) (by omega) (by omega) (by omega)).mono fun e w2 h => ⟨h.1, hSw.trans (h.2.mono hSw.size)⟩) ?_
  simp only [List.setIfInBounds_toArray, List.set_cons_zero, List.set_cons_succ]
  refine wpG_val (.pointer (some ⟨b0, 1, none⟩)) rfl (by rfl) (fun w' hSw => by go_simp) ?_
  simp only [List.setIfInBounds_toArray, List.set_cons_zero, List.set_cons_succ]
  refine wpG_val (.int .u16 M) rfl (by rfl) (fun w' hSw => by have c := (Below.cell hSw (p := ⟨b0, 1, none⟩) hbl).trans D1; go_simp) ?_
  simp only [List.setIfInBounds_toArray, List.set_cons_zero, List.set_cons_succ]
  refine wpG_val (.int .u64 M) rfl (by rfl) (fun w' hSw => by have u := u64_id (n := M) (by omega); go_simp) ?_
  simp only [List.setIfInBounds_toArray, List.set_cons_zero, List.set_cons_succ]
  refine wpG_call (.string (bs (be 2 M))) 79 #[.int .u64 M, .int .i64 2] rfl (by rfl) (fun w' => by go_simp) (fun w' hSw => (number_in M 2 w' (by omega) (by omega) (by omega) (by omega)).mono fun e w2 h => ⟨h.1, hSw.trans (h.2.mono hSw.size)⟩) ?_
  simp only [List.setIfInBounds_toArray, List.set_cons_zero, List.set_cons_succ]
  refine wpG_val (.string (bs (be 1 K) ++ bs (be 2 M))) rfl (by rfl) (fun w' hSw => by go_simp) ?_
  simp only [List.setIfInBounds_toArray, List.set_cons_zero, List.set_cons_succ]
  refine wpG_val (.pointer (some ⟨b0, 2, none⟩)) rfl (by rfl) (fun w' hSw => by go_simp) ?_
  simp only [List.setIfInBounds_toArray, List.set_cons_zero, List.set_cons_succ]
  refine wpG_val (.int .u32 L) rfl (by rfl) (fun w' hSw => by have c := (Below.cell hSw (p := ⟨b0, 2, none⟩) hbl).trans D2; go_simp) ?_
  simp only [List.setIfInBounds_toArray, List.set_cons_zero, List.set_cons_succ]
  refine wpG_val (.int .u64 L) rfl (by rfl) (fun w' hSw => by have u := u64_id (n := L) (by omega); go_simp) ?_
  simp only [List.setIfInBounds_toArray, List.set_cons_zero, List.set_cons_succ]
  refine wpG_call (.string (bs (be 4 L))) 79 #[.int .u64 L, .int .i64 4] rfl (by rfl) (fun w' => by go_simp) (fun w' hSw => (number_in L 4 w' (by omega) (by omega) (by omega) (by omega)).mono fun e w2 h => ⟨h.1, hSw.trans (h.2.mono hSw.size)⟩) ?_
  simp only [List.setIfInBounds_toArray, List.set_cons_zero, List.set_cons_succ]
  refine wpG_val (.string (bs (be 1 K) ++ bs (be 2 M) ++ bs (be 4 L))) rfl (by rfl) (fun w' hSw => by go_simp) ?_
  simp only [List.setIfInBounds_toArray, List.set_cons_zero, List.set_cons_succ]
  refine wpG_val (.pointer (some ⟨b0, 3, none⟩)) rfl (by rfl) (fun w' hSw => by go_simp) ?_
  simp only [List.setIfInBounds_toArray, List.set_cons_zero, List.set_cons_succ]
  refine wpG_val (.int .u32 S) rfl (by rfl) (fun w' hSw => by have c := (Below.cell hSw (p := ⟨b0, 3, none⟩) hbl).trans D3; go_simp) ?_
  simp only [List.setIfInBounds_toArray, List.set_cons_zero, List.set_cons_succ]
  refine wpG_val (.int .u64 S) rfl (by rfl) (fun w' hSw => by have u := u64_id (n := S) (by omega); go_simp) ?_
  simp only [List.setIfInBounds_toArray, List.set_cons_zero, List.set_cons_succ]
  refine wpG_call (.string (bs (be 4 S))) 79 #[.int .u64 S, .int .i64 4] rfl (by rfl) (fun w' => by go_simp) (fun w' hSw => (number_in S 4 w' (by omega) (by omega) (by omega) (by omega)).mono fun e w2 h => ⟨h.1, hSw.trans (h.2.mono hSw.size)⟩) ?_
  simp only [List.setIfInBounds_toArray, List.set_cons_zero, List.set_cons_succ]
  refine wpG_val (.string (bs (be 1 K) ++ bs (be 2 M) ++ bs (be 4 L) ++ bs (be 4 S))) rfl (by rfl) (fun w' hSw => by go_simp) ?_
  simp only [List.setIfInBounds_toArray, List.set_cons_zero, List.set_cons_succ]
  refine wpG_val (.string t) rfl (by rfl) (fun w' hSw => by go_simp) ?_
  simp only [List.setIfInBounds_toArray, List.set_cons_zero, List.set_cons_succ]
  refine wpG_val (.string (bs (be 1 K) ++ bs (be 2 M) ++ bs (be 4 L) ++ bs (be 4 S) ++ t)) rfl (by rfl) (fun w' hSw => by go_simp <;> omega) ?_
  simp only [List.setIfInBounds_toArray, List.set_cons_zero, List.set_cons_succ]
  refine wpG_val (.string (bs (be 1 K) ++ bs (be 2 M) ++ bs (be 4 L) ++ bs (be 4 S) ++ t)) rfl (by rfl) (fun w' hSw => by go_simp) ?_
  simp only [List.setIfInBounds_toArray, List.set_cons_zero, List.set_cons_succ]
  refine wpG_nil ?_
  intro wS hSw
  go_wp2
  go_ret
  exact ⟨by rw [HT.out]; rfl, by rw [HB0.out]; exact B1.out.trans (hSw.mono (Nat.le_of_lt hbl))⟩
/-- an inode's bytes, or none -/
def enI (n : In) : ByteArray := if okI n then wrI n else ByteArray.empty
theorem chI_yes {n : In} (h : okI n = true) : chI n = 0 ∧ enI n = wrI n := by unfold chI enI; rw [h]; exact ⟨rfl, rfl⟩
theorem chI_no {n : In} (h : okI n = false) : chI n = 4 ∧ enI n = ByteArray.empty := by unfold chI enI; rw [h]; exact ⟨rfl, rfl⟩
set_option maxRecDepth 100000 in
set_option maxHeartbeats 1000000 in
theorem encode_in (n : In) (hl : n.lim) (w : World) :
    Calls Tryz.prog 13 #[vI n] w fun e w' => e = .returned (.tuple #[.string (enI n), .int .i64 (chI n)]) ∧ Below w.heap.size w w' := by
  obtain ⟨K, M, L, S, T⟩ := n
  have HC := Lib.hid (check_in ⟨K, M, L, S, T⟩ hl)
  have HW := Lib.hid (fun ht w => written_in ⟨K, M, L, S, T⟩ hl ht w)
  have C0 := box_cell w #[.int .u8 K, .int .u16 M, .int .u32 L, .int .u32 S, .string T] 33 0 rfl
  have C1 := box_cell w #[.int .u8 K, .int .u16 M, .int .u32 L, .int .u32 S, .string T] 33 1 rfl
  have C2 := box_cell w #[.int .u8 K, .int .u16 M, .int .u32 L, .int .u32 S, .string T] 33 2 rfl
  have C3 := box_cell w #[.int .u8 K, .int .u16 M, .int .u32 L, .int .u32 S, .string T] 33 3 rfl
  have C4 := box_cell w #[.int .u8 K, .int .u16 M, .int .u32 L, .int .u32 S, .string T] 33 4 rfl
  have B0 := Lib.hid ((Below.refl w.heap.size w).alloc (Nat.le_refl _) (.cells #[.int .u8 K, .int .u16 M, .int .u32 L, .int .u32 S, .string T] 33))
  have hsz : (w.alloc (.cells #[.int .u8 K, .int .u16 M, .int .u32 L, .int .u32 S, .string T] 33)).heap.size = w.heap.size + 1 := by simp
  have HZ := Lib.hid hsz
  clear hsz
  unfold vI
  dsimp only
  go_enter Tryz.func13, Tryz.ntmps13
  go_wp2_with fail
  change Calls _ _ _ (w.alloc (.cells #[.int .u8 K, .int .u16 M, .int .u32 L, .int .u32 S, .string T] 33)) _
  generalize w.alloc (.cells #[.int .u8 K, .int .u16 M, .int .u32 L, .int .u32 S, .string T] 33) = W at *
  refine (HC.out W).mono ?_
  rintro e w1 ⟨rfl, hb⟩
  have hbl0 : w.heap.size < W.heap.size := by rw [HZ.out]; omega
  have D0 := (Below.cell hb (p := ⟨w.heap.size, 0, none⟩) hbl0).trans C0
  have D1 := (Below.cell hb (p := ⟨w.heap.size, 1, none⟩) hbl0).trans C1
  have D2 := (Below.cell hb (p := ⟨w.heap.size, 2, none⟩) hbl0).trans C2
  have D3 := (Below.cell hb (p := ⟨w.heap.size, 3, none⟩) hbl0).trans C3
  have D4 := (Below.cell hb (p := ⟨w.heap.size, 4, none⟩) hbl0).trans C4
  have B1 := Lib.hid (B0.out.trans (hb.mono (by rw [HZ.out]; omega)))
  clear C0 C1 C2 C3 C4 hb B0 HZ HC
  cases hq : okI ⟨K, M, L, S, T⟩
  · have HQ := Lib.hid (chI_no hq)
    rw [HQ.out.1]
    clear hq
    go_wp2
    go_ret2
    exact ⟨by rw [HQ.out.1, HQ.out.2]; rfl, B1.out⟩
  · have HQ := Lib.hid (chI_yes hq)
    have HW2 := Lib.hid (HW.out (by have := (okI_size hq).1; dsimp only at this ⊢; omega))
    rw [HQ.out.1]
    clear hq HW
    go_wp2_with (go_at_call 37; refine (HW2.out _).mono ?_; rintro e w' ⟨rfl, hb⟩)
    go_ret2
    exact ⟨by rw [HQ.out.1, HQ.out.2]; rfl, B1.out.trans (hb.mono B1.out.size)⟩
theorem setRow_heap' {w : World} {g : Nat} {cs old : Array Value} {t : TypeId} {f : Nat × Nat} (h : w.heap[g]? = some (.cells old t f)) : (w.setRow g cs).heap[g]? = some (.cells cs t f) := setRow_heap w g old cs t f h
theorem below_setRow {B : Nat} {w w1 : World} (h : Below B w w1) {g : Nat} (hg : B ≤ g) (cs : Array Value) : Below B w (w1.setRow g cs) :=
  ⟨h.os, h.tape, h.output, by simpa [World.setRow] using h.size, fun k hk => by
    have : (w1.setRow g cs).heap[k]? = w1.heap[k]? := by
      unfold World.setRow
      simp only [Array.getElem?_modify]
      rw [if_neg (by omega)]
    rw [this]
    exact h.block k hk⟩
theorem row_bel {w w' : World} {g B : Nat} {o : Obj} (h : w.heap[g]? = some o) (hb : Below B w w') (hg : g < B) : w'.heap[g]? = some o := (hb.block g hg).trans h
theorem row5 (K M L S : Int) (T : ByteArray) : (#[.int .u8 K, .int .u16 M, .int .u32 L, .int .u32 S, .string T] : Array Value).all (·.oneCell') = true := by simp [Value.oneCell']
theorem tn_nat (s : ByteArray) (k : Nat) (h : k ≤ 8) : tN s (k : Int) = ((tN s (k : Int)).toNat : Int) := by have := (tN_lt s k h).1; omega
theorem u8_id {n : Nat} (h : n < 256) : IntKind.u8.wrap (n : Int) = n := by simp [IntKind.wrap, IntKind.bits, IntKind.signed]; omega
theorem u16_id {n : Nat} (h : n < 65536) : IntKind.u16.wrap (n : Int) = n := by simp [IntKind.wrap, IntKind.bits, IntKind.signed]; omega
theorem u32_id {n : Nat} (h : n < 4294967296) : IntKind.u32.wrap (n : Int) = n := by simp [IntKind.wrap, IntKind.bits, IntKind.signed]; omega
theorem takeNat (s : ByteArray) (k m : Nat) (r : ByteArray) (hs : s.size ≤ maxLen) (hk : k ≤ 8) (hm : (tN s (k : Int)).toNat = m) (hr : tR s (k : Int) = r) (w : World) :
    Calls Tryz.prog 164 #[.string s, .int .i64 k] w fun e w' => e = .returned (.tuple #[.int .u64 (m : Int), .string r]) ∧ Below w.heap.size w w' := by
  have h := takeNumber_in s k w hs
  rw [tn_nat s k hk, hm, hr] at h
  exact h
set_option maxRecDepth 100000 in
set_option maxHeartbeats 2000000 in
theorem taken_in (s : ByteArray) (hs : s.size ≤ maxLen) (w : World) :
    Calls Tryz.prog 235 #[.string s] w fun e w' => e = .returned (vI (tkI s)) ∧ Below w.heap.size w w' := by
  have hlim := tkI_lim s
  obtain ⟨K, hK⟩ : ∃ K, (tN s ((1 : Nat) : Int)).toNat = K := ⟨_, rfl⟩
  obtain ⟨r1, h1⟩ : ∃ r, tR s ((1 : Nat) : Int) = r := ⟨_, rfl⟩
  obtain ⟨M, hM⟩ : ∃ K, (tN r1 ((2 : Nat) : Int)).toNat = K := ⟨_, rfl⟩
  obtain ⟨r2, h2⟩ : ∃ r, tR r1 ((2 : Nat) : Int) = r := ⟨_, rfl⟩
  obtain ⟨L, hL⟩ : ∃ K, (tN r2 ((4 : Nat) : Int)).toNat = K := ⟨_, rfl⟩
  obtain ⟨r3, h3⟩ : ∃ r, tR r2 ((4 : Nat) : Int) = r := ⟨_, rfl⟩
  obtain ⟨S, hS⟩ : ∃ K, (tN r3 ((4 : Nat) : Int)).toNat = K := ⟨_, rfl⟩
  obtain ⟨r4, h4⟩ : ∃ r, tR r3 ((4 : Nat) : Int) = r := ⟨_, rfl⟩
  obtain ⟨T, hT⟩ : ∃ r, uT r4 = r := ⟨_, rfl⟩
  have hn : tkI s = ⟨K, M, L, S, T⟩ := by subst hK h1 hM h2 hL h3 hS h4 hT; rfl
  have z1 : r1.size ≤ maxLen := by rw [← h1]; exact Nat.le_trans (tR_le _ _) hs
  have z2 : r2.size ≤ maxLen := by rw [← h2]; exact Nat.le_trans (tR_le _ _) z1
  have z3 : r3.size ≤ maxLen := by rw [← h3]; exact Nat.le_trans (tR_le _ _) z2
  have z4 : r4.size ≤ maxLen := by rw [← h4]; exact Nat.le_trans (tR_le _ _) z3
  have C1 := Lib.hid (takeNat s 1 K r1 hs (by omega) hK h1)
  have C2 := Lib.hid (takeNat r1 2 M r2 z1 (by omega) hM h2)
  have C3 := Lib.hid (takeNat r2 4 L r3 z2 (by omega) hL h3)
  have C4 := Lib.hid (takeNat r3 4 S r4 z3 (by omega) hS h4)
  have C5 := Lib.hid (fun w => taketext_any r4 w z4)
  rw [hT] at C5
  rw [hn] at hlim ⊢
  obtain ⟨l1, l2, l3, l4⟩ := hlim
  dsimp only at l1 l2 l3 l4
  have U1 := Lib.hid (u8_id l1)
  have U2 := Lib.hid (u16_id l2)
  have U3 := Lib.hid (u32_id l3)
  have U4 := Lib.hid (u32_id l4)
  clear hn hK h1 hM h2 hL h3 hS h4 hT z1 z2 z3 z4 l1 l2 l3 l4 hs
  have R0 := Lib.hid (heap_alloc_new w (.cells #[.int .u8 0, .int .u16 0, .int .u32 0, .int .u32 0, .string ⟨#[]⟩] 33))
  have B0 := Lib.hid ((Below.refl w.heap.size w).alloc (Nat.le_refl _) (.cells #[.int .u8 0, .int .u16 0, .int .u32 0, .int .u32 0, .string ⟨#[]⟩] 33))
  have hsz : w.heap.size < (w.alloc (.cells #[.int .u8 0, .int .u16 0, .int .u32 0, .int .u32 0, .string ⟨#[]⟩] 33)).heap.size := by simp
  unfold vI
  dsimp only
  go_enter Tryz.func235, Tryz.ntmps235
  go_wp2_with fail
  change Calls _ _ _ (w.alloc (.cells #[.int .u8 0, .int .u16 0, .int .u32 0, .int .u32 0, .string ⟨#[]⟩] 33)) _
  generalize w.alloc (.cells #[.int .u8 0, .int .u16 0, .int .u32 0, .int .u32 0, .string ⟨#[]⟩] 33) = W at *
  refine (C1.out _).mono ?_
  rintro e w1 ⟨rfl, hb⟩
  have R1 := Lib.hid (row_bel R0.out hb hsz)
  have B1 := Lib.hid (B0.out.trans (hb.mono B0.out.size))
  replace hsz := Nat.lt_of_lt_of_le hsz hb.size
  clear hb R0 B0 C1
  go_wp2_with fail
  refine (C2.out _).mono ?_
  rintro e w2 ⟨rfl, hb⟩
  have R2 := Lib.hid (row_bel R1.out hb hsz)
  have B2 := Lib.hid (B1.out.trans (hb.mono B1.out.size))
  replace hsz := Nat.lt_of_lt_of_le hsz hb.size
  clear hb R1 B1 C2
  go_wp2_with fail
  refine (C3.out _).mono ?_
  rintro e w3 ⟨rfl, hb⟩
  have R3 := Lib.hid (row_bel R2.out hb hsz)
  have B3 := Lib.hid (B2.out.trans (hb.mono B2.out.size))
  replace hsz := Nat.lt_of_lt_of_le hsz hb.size
  clear hb R2 B2 C3
  go_wp2_with fail
  refine (C4.out _).mono ?_
  rintro e w4 ⟨rfl, hb⟩
  have R4 := Lib.hid (row_bel R3.out hb hsz)
  have B4 := Lib.hid (B3.out.trans (hb.mono B3.out.size))
  replace hsz := Nat.lt_of_lt_of_le hsz hb.size
  clear hb R3 B3 C4
  go_wp2_with fail
  refine (C5.out _).mono ?_
  rintro e w5 ⟨rfl, hb⟩
  have R5 := Lib.hid (row_bel R4.out hb hsz)
  have B5 := Lib.hid (B4.out.trans (hb.mono B4.out.size))
  replace hsz := Nat.lt_of_lt_of_le hsz hb.size
  clear hb R4 B4 C5
  have u1 := U1.out
  have u2 := U2.out
  have u3 := U3.out
  have u4 := U4.out
  go_wp2_with (refine wpList_store_row rfl 33 (.tmp 2) (.tmp 46) rfl w.heap.size #[.int .u8 K, .int .u16 M, .int .u32 L, .int .u32 S, .string T] rfl rfl 33 #[.int .u8 0, .int .u16 0, .int .u32 0, .int .u32 0, .string ⟨#[]⟩] R5.out (by kernel_rfl) rfl (row5 _ _ _ _ _) ?_)
  have hg2 := setRow_heap' (cs := #[.int .u8 K, .int .u16 M, .int .u32 L, .int .u32 S, .string T]) R5.out
  refine bodyPost_ret (v := .agg #[.int .u8 K, .int .u16 M, .int .u32 L, .int .u32 S, .string T]) (results_cell_row rfl _ _ w.heap.size 33 #[.int .u8 K, .int .u16 M, .int .u32 L, .int .u32 S, .string T] (0, 0) _ rfl hg2 Tryz.underlying33 rfl (by kernel_rfl)) rfl ?_
  exact ⟨rfl, below_setRow B5.out (Nat.le_refl _) _⟩
theorem results_row2 {P : Program} {fn : Func} {p u : Tmp} {ty : TypeId} (h : fn.results = #[.cell p ty, .tmp u]) (tmps : Array Value) (w : World) (g : Nat) (t : TypeId) (cs : Array Value) (fr : Nat × Nat) (d : TypeDesc)
    (hp : tmps.getD p undef = .pointer (some ⟨g, 0, none⟩)) (hg : w.heap[g]? = some (.cells cs t fr))
    (hu : P.underlying ty = some d) (hd : (match d with | .struct _ | .array _ _ => true | _ => false) = true) (hi : (P.info? ty).map (·.size) = some cs.size) (r : Value) (hr : tmps.getD u undef = r) :
    (results fn tmps).run P w = .ok (.tuple #[.agg cs, r]) w := by
  rw [results_cell_tmp h, hp, hr]
  simp [asAddr, run_loadVar_row w g t ty cs fr d hg hu hd hi, Result.andThen]
theorem new_row {w1 : World} {g g2 : Nat} {o : Obj} {old cs : Array Value} {t : TypeId} (h : w1.heap[g]? = some o) (hg2 : w1.heap.size = g2) : ((w1.alloc (.cells old t)).setRow g2 cs).heap[g]? = some o ∧ ((w1.alloc (.cells old t)).setRow g2 cs).heap[g2]? = some (.cells cs t (0, 0)) ∧ Below w1.heap.size w1 ((w1.alloc (.cells old t)).setRow g2 cs) := by
  subst hg2
  have hlt : g < w1.heap.size := by
    rcases Nat.lt_or_ge g w1.heap.size with h' | h'
    · exact h'
    · rw [Array.getElem?_eq_none h'] at h; cases h
  have hb := below_setRow ((Below.refl w1.heap.size w1).alloc (Nat.le_refl _) (.cells old t)) (Nat.le_refl w1.heap.size) cs
  exact ⟨(hb.block g hlt).trans h, setRow_heap' (heap_alloc_new w1 _), hb⟩
theorem ne_str {x y : ByteArray} (h : x ≠ y) : (x.toList != y.toList) = true ∧ (x.toList == y.toList) = false := by
  have e : (x.toList == y.toList) = false := by
    rw [beq_eq_false_iff_ne, tl, tl]
    exact fun e => h (ByteArray.ext (Array.toList_inj.1 e))
  exact ⟨by rw [bne, e]; rfl, e⟩
theorem eq_str (x : ByteArray) : (x.toList != x.toList) = false ∧ (x.toList == x.toList) = true := by
  have e : (x.toList == x.toList) = true := beq_self_eq_true _
  exact ⟨by rw [bne, e]; rfl, e⟩
set_option maxRecDepth 100000 in
set_option maxHeartbeats 2000000 in
theorem decode_in (s : ByteArray) (hs : s.size ≤ maxLen) (w : World) :
    Calls Tryz.prog 221 #[.string s] w fun e w' => e = .returned (.tuple #[vI (deI s), .int .i64 (deIE s)]) ∧ Below w.heap.size w w' := by
  have CT := Lib.hid (taken_in s hs)
  have hlim := tkI_lim s
  have HI : Hid (deI s = if okI (tkI s) = true ∧ wrI (tkI s) = s then tkI s else zIn) := Lib.hid rfl
  have HX : Hid (deIE s = if okI (tkI s) = true ∧ wrI (tkI s) = s then 0 else 4) := Lib.hid rfl
  generalize tkI s = n at *
  have CE := Lib.hid (encode_in n hlim)
  have HE := Lib.hid (@chI_yes n)
  have HF := Lib.hid (@chI_no n)
  obtain ⟨K, M, L, S, T⟩ := n
  unfold vI at CT CE
  dsimp only at CT CE
  have R0 := Lib.hid (heap_alloc_new w (.cells #[.int .u8 0, .int .u16 0, .int .u32 0, .int .u32 0, .string ⟨#[]⟩] 33))
  have B0 := Lib.hid ((Below.refl w.heap.size w).alloc (Nat.le_refl _) (.cells #[.int .u8 0, .int .u16 0, .int .u32 0, .int .u32 0, .string ⟨#[]⟩] 33))
  have hsz : w.heap.size < (w.alloc (.cells #[.int .u8 0, .int .u16 0, .int .u32 0, .int .u32 0, .string ⟨#[]⟩] 33)).heap.size := by simp
  clear hs
  go_enter Tryz.func221, Tryz.ntmps221
  go_wp2_with fail
  change Calls _ _ _ (w.alloc (.cells #[.int .u8 0, .int .u16 0, .int .u32 0, .int .u32 0, .string ⟨#[]⟩] 33)) _
  generalize w.alloc (.cells #[.int .u8 0, .int .u16 0, .int .u32 0, .int .u32 0, .string ⟨#[]⟩] 33) = W at *
  refine (CT.out _).mono ?_
  rintro e w1 ⟨rfl, hb⟩
  have R1 := Lib.hid (row_bel R0.out hb hsz)
  have B1 := Lib.hid (B0.out.trans (hb.mono B0.out.size))
  have N1 := Lib.hid (new_row (old := #[.int .u8 0, .int .u16 0, .int .u32 0, .int .u32 0, .string ⟨#[]⟩]) (cs := #[.int .u8 K, .int .u16 M, .int .u32 L, .int .u32 S, .string T]) (t := 33) R1.out rfl)
  clear hb R0 B0 CT
  go_wp2_with (first
    | (refine wpList_store_row rfl 33 (.tmp 4) (.tmp 8) rfl w1.heap.size #[.int .u8 K, .int .u16 M, .int .u32 L, .int .u32 S, .string T] rfl rfl 33 #[.int .u8 0, .int .u16 0, .int .u32 0, .int .u32 0, .string ⟨#[]⟩] (heap_alloc_new w1 _) (by kernel_rfl) rfl (row5 _ _ _ _ _) ?_; change wpList _ _ _ _ _ ((w1.alloc (.cells #[.int .u8 0, .int .u16 0, .int .u32 0, .int .u32 0, .string ⟨#[]⟩] 33)).setRow w1.heap.size #[.int .u8 K, .int .u16 M, .int .u32 L, .int .u32 S, .string T]); generalize ((w1.alloc (.cells #[.int .u8 0, .int .u16 0, .int .u32 0, .int .u32 0, .string ⟨#[]⟩] 33)).setRow w1.heap.size #[.int .u8 K, .int .u16 M, .int .u32 L, .int .u32 S, .string T]) = W2 at *)
    | (refine wpList_load_row rfl 33 (.tmp 4) rfl w1.heap.size rfl 33 #[.int .u8 K, .int .u16 M, .int .u32 L, .int .u32 S, .string T] (0, 0) _ N1.out.2.1 Tryz.underlying33 rfl (by kernel_rfl) ?_))
  refine (CE.out _).mono ?_
  rintro e w3 ⟨rfl, hb⟩
  have hlt2 : w1.heap.size < W2.heap.size := by
    rcases Nat.lt_or_ge w1.heap.size W2.heap.size with h' | h'
    · exact h'
    · have := N1.out.2.1; rw [Array.getElem?_eq_none h'] at this; cases this
  have Rg := Lib.hid (row_bel N1.out.1 hb (by have := B1.out.size; omega))
  have Rn := Lib.hid (row_bel N1.out.2.1 hb hlt2)
  have B3 := Lib.hid (B1.out.trans ((N1.out.2.2.trans (hb.mono N1.out.2.2.size)).mono B1.out.size))
  clear hb N1 CE R1 B1 hlt2 hsz
  have hz := setRow_heap' (cs := #[.int .u8 0, .int .u16 0, .int .u32 0, .int .u32 0, .string ⟨#[]⟩]) Rg.out
  have hr := setRow_heap' (cs := #[.int .u8 K, .int .u16 M, .int .u32 L, .int .u32 S, .string T]) Rg.out
  have HZ := Lib.hid hz
  have HR := Lib.hid hr
  clear hz hr
  cases hq : okI ⟨K, M, L, S, T⟩
  · obtain ⟨e1, e2⟩ := HF.out hq
    have H1 := Lib.hid (show deI s = zIn by rw [HI.out, if_neg (by rw [hq]; rintro ⟨h, _⟩; cases h)])
    have H2 := Lib.hid (show deIE s = 4 by rw [HX.out, if_neg (by rw [hq]; rintro ⟨h, _⟩; cases h)])
    rw [e1]
    clear hq e1 e2 HE HF HI HX
    go_wp2_with (refine wpList_store_row rfl 33 (.tmp 2) (.tmp 21) rfl w.heap.size #[.int .u8 0, .int .u16 0, .int .u32 0, .int .u32 0, .string ⟨#[]⟩] rfl rfl 33 #[.int .u8 0, .int .u16 0, .int .u32 0, .int .u32 0, .string ⟨#[]⟩] Rg.out (by kernel_rfl) rfl (row5 _ _ _ _ _) ?_)
    refine bodyPost_ret (v := .tuple #[.agg #[.int .u8 0, .int .u16 0, .int .u32 0, .int .u32 0, .string ⟨#[]⟩], .int .i64 4]) (results_row2 rfl _ _ w.heap.size 33 #[.int .u8 0, .int .u16 0, .int .u32 0, .int .u32 0, .string ⟨#[]⟩] (0, 0) _ rfl HZ.out Tryz.underlying33 rfl (by kernel_rfl) _ rfl) rfl ?_
    exact ⟨by rw [H1.out, H2.out]; rfl, below_setRow B3.out (Nat.le_refl _) _⟩
  · obtain ⟨e1, e2⟩ := HE.out hq
    by_cases hw : wrI ⟨K, M, L, S, T⟩ = s
    · obtain ⟨s1, s2⟩ := eq_str s
      have H1 := Lib.hid (show deI s = ⟨K, M, L, S, T⟩ by rw [HI.out, if_pos ⟨hq, hw⟩])
      have H2 := Lib.hid (show deIE s = 0 by rw [HX.out, if_pos ⟨hq, hw⟩])
      rw [e1, e2, hw]
      clear hq hw e1 e2 HE HF HI HX
      go_wp2_with (first
        | (refine wpList_load_row rfl 33 (.tmp 4) rfl w1.heap.size rfl 33 #[.int .u8 K, .int .u16 M, .int .u32 L, .int .u32 S, .string T] (0, 0) _ Rn.out Tryz.underlying33 rfl (by kernel_rfl) ?_)
        | (refine wpList_store_row rfl 33 (.tmp 2) (.tmp 22) rfl w.heap.size #[.int .u8 K, .int .u16 M, .int .u32 L, .int .u32 S, .string T] rfl rfl 33 #[.int .u8 0, .int .u16 0, .int .u32 0, .int .u32 0, .string ⟨#[]⟩] Rg.out (by kernel_rfl) rfl (row5 _ _ _ _ _) ?_))
      refine bodyPost_ret (v := .tuple #[.agg #[.int .u8 K, .int .u16 M, .int .u32 L, .int .u32 S, .string T], .int .i64 0]) (results_row2 rfl _ _ w.heap.size 33 #[.int .u8 K, .int .u16 M, .int .u32 L, .int .u32 S, .string T] (0, 0) _ rfl HR.out Tryz.underlying33 rfl (by kernel_rfl) _ rfl) rfl ?_
      exact ⟨by rw [H1.out, H2.out]; rfl, below_setRow B3.out (Nat.le_refl _) _⟩
    · obtain ⟨s1, s2⟩ := ne_str hw
      have H1 := Lib.hid (show deI s = zIn by rw [HI.out, if_neg (fun h => hw h.2)])
      have H2 := Lib.hid (show deIE s = 4 by rw [HX.out, if_neg (fun h => hw h.2)])
      rw [e1, e2]
      clear hq hw e1 e2 HE HF HI HX
      go_wp2_with (refine wpList_store_row rfl 33 (.tmp 2) (.tmp 21) rfl w.heap.size #[.int .u8 0, .int .u16 0, .int .u32 0, .int .u32 0, .string ⟨#[]⟩] rfl rfl 33 #[.int .u8 0, .int .u16 0, .int .u32 0, .int .u32 0, .string ⟨#[]⟩] Rg.out (by kernel_rfl) rfl (row5 _ _ _ _ _) ?_)
      refine bodyPost_ret (v := .tuple #[.agg #[.int .u8 0, .int .u16 0, .int .u32 0, .int .u32 0, .string ⟨#[]⟩], .int .i64 4]) (results_row2 rfl _ _ w.heap.size 33 #[.int .u8 0, .int .u16 0, .int .u32 0, .int .u32 0, .string ⟨#[]⟩] (0, 0) _ rfl HZ.out Tryz.underlying33 rfl (by kernel_rfl) _ rfl) rfl ?_
      exact ⟨by rw [H1.out, H2.out]; rfl, below_setRow B3.out (Nat.le_refl _) _⟩
end Go.Proofs.YtjkmfonngbendaaGreatDoor.Ino
/- The document's own answers about inodes. -/
namespace Go.Proofs.YtjkmfonngbendaaGreatDoor.Ino
set_option linter.unusedVariables false
set_option linter.unusedSimpArgs false
open Go.ChangeShapes Go.WideShapes Go.ChangeAt Go.RowKit
open Rg
open Pk (be num be_length num_be num_lt bs bs_size nB nE tN tR tE uN uOk uT uR uE xB xE ref_bytes ref_take_any ref_text_any ref_taketext_any xB_size)
open Ph (has has_take has_iff byte_ne byte_eq tl tl_len nb)
set_option maxHeartbeats 1000000 in
theorem refTarget_in (s : ByteArray) (hs : s.size ≤ maxLen) (w : World) :
    Calls Tryz.prog 203 #[.string s] w fun e w' => e = .returned (.bool (tgt s)) ∧ w = w' := by
  unfold maxLen at hs
  have HQ := Lib.hid (show tgt s = (decide (1 ≤ s.size) && decide (s.size ≤ 64) && !has s 0) from rfl)
  go_enter Tryz.func203, Tryz.ntmps203
  go_wp2
  go_loop [3] (fun v => ∃ i : Nat, i ≤ s.size ∧ v = .int .i64 i ∧ Hid ((s.data.toList.take i).contains 0 = false)) (fun v => s.size - (intOf v).toNat)
  case atStart => exact ⟨0, Nat.zero_le _, rfl, Lib.hid rfl⟩
  case round =>
    obtain ⟨i, hi, rfl, HI⟩ := hrel
    by_cases hlt : i < s.size
    · have h0 := has_take (c := 0) hlt
      rw [Hid.out HI, Bool.false_or] at h0
      cases b0 : (s[i] == 0)
      · have c0 : ((s[i].toNat : Int) == 0) = false := byte_ne b0
        have HI2 := Lib.hid (h0.trans b0)
        clear h0 b0 HI
        go_wp2
        go_round
        case rel => exact ⟨i + 1, by omega, by go_num, HI2⟩
        case measure => simp [intOf]; omega
      · have c0 : ((s[i].toNat : Int) == 0) = true := byte_eq b0
        have HN := Lib.hid (show tgt s = false by
          have hm : has s 0 = true := by
            rw [has_iff]
            have := h0.trans b0
            rw [List.contains_iff_mem] at this
            exact List.mem_of_mem_take this
          rw [HQ.out, hm]; simp)
        clear h0 b0 HI
        go_wp2
        go_ret
        exact ⟨by rw [HN.out]; rfl, rfl⟩
    · obtain rfl : i = s.size := by omega
      rw [List.take_of_length_le (by simp)] at HI
      have hq := HQ.out
      rw [show has s 0 = false from Hid.out HI] at hq
      clear HI HQ
      by_cases h1 : s.size = 0
      · obtain ⟨e1, e2⟩ := emp_of (decide_eq_true h1)
        have e3 := emp_yes h1
        have HN := Lib.hid (show tgt s = false by rw [hq, decide_eq_false (by omega)]; rfl)
        clear hq h1
        go_wp2
        go_ret
        exact ⟨by rw [HN.out]; rfl, rfl⟩
      · obtain ⟨e1, e2⟩ := emp_of (decide_eq_false h1)
        have e3 := emp_no h1
        by_cases h2 : s.size ≤ 64
        · have d : decide ((s.size : Int) ≤ 64) = true := by simp; omega
          have HN := Lib.hid (show tgt s = true by rw [hq, decide_eq_true (by omega), decide_eq_true h2]; rfl)
          clear hq h1
          go_wp2
          go_ret
          exact ⟨by rw [HN.out]; rfl, rfl⟩
        · have d : decide ((s.size : Int) ≤ 64) = false := by simp; omega
          have HN := Lib.hid (show tgt s = false by rw [hq, decide_eq_false h2]; simp)
          clear hq h1
          go_wp2
          go_ret
          exact ⟨by rw [HN.out]; rfl, rfl⟩
set_option maxRecDepth 100000 in
set_option maxHeartbeats 2000000 in
theorem refCheck_in (n : In) (hl : n.lim) (hT : n.T.size ≤ maxLen) (w : World) :
    Calls Tryz.prog 184 #[vI n] w fun e w' => e = .returned (.int .i64 (chI n)) ∧ Below w.heap.size w w' := by
  obtain ⟨K, M, L, S, T⟩ := n
  obtain ⟨l1, l2, l3, l4⟩ := hl
  dsimp only at l1 l2 l3 l4 hT
  unfold vI
  dsimp only
  cases k1 : decide (K = 1)
  · have K1 := eqz1 k1
    have k1' := of_decide_eq_false k1
    cases k2 : decide (K = 2)
    · have K2 := eqz2 k2
      have k2' := of_decide_eq_false k2
      cases k3 : decide (K = 3)
      · have K3 := eqz3 k3
        have k3' := of_decide_eq_false k3
        have hq : okI ⟨K, M, L, S, T⟩ = false := by unfold okI; dsimp only; rw [if_neg k1', if_neg k2', if_neg k3']
        have HQ := Lib.hid (chI_no (n := ⟨K, M, L, S, T⟩) (by rw [hq])).1
        clear hq k1 k2 k3 k1' k2' k3'
        go_enter Tryz.func184, Tryz.ntmps184
        go_wp2
        go_ret
        exact ⟨by rw [HQ.out]; rfl, (Below.refl _ _).alloc (Nat.le_refl _) _⟩
      · have K3 := eqz3 k3
        have k3' := of_decide_eq_true k3
        have hq : okI ⟨K, M, L, S, T⟩ = (decide (1 ≤ L) && tgt T && decide (S = T.size)) := by unfold okI; dsimp only; rw [if_neg k1', if_neg k2', if_pos k3']
        clear k1 k2 k3 k1' k2' k3'
        have HC := Lib.hid (refTarget_in T hT)
        cases a1 : decide (1 ≤ L)
        · have A1 := lez1 a1
          rw [a1] at hq
          have HQ := Lib.hid (chI_no (n := ⟨K, M, L, S, T⟩) (by rw [hq]; rfl)).1
          clear hq a1
          go_enter Tryz.func184, Tryz.ntmps184
          go_wp2
          go_ret
          exact ⟨by rw [HQ.out]; rfl, (Below.refl _ _).alloc (Nat.le_refl _) _⟩
        · have A1 := lez1 a1
          rw [a1] at hq
          cases a2 : tgt T
          · rw [a2] at hq HC
            have HQ := Lib.hid (chI_no (n := ⟨K, M, L, S, T⟩) (by rw [hq]; rfl)).1
            clear hq a1 a2
            go_enter Tryz.func184, Tryz.ntmps184
            go_wp2_with (go_at_call 203; refine (HC.out _).mono ?_; rintro e w' ⟨rfl, rfl⟩)
            go_ret
            exact ⟨by rw [HQ.out]; rfl, (Below.refl _ _).alloc (Nat.le_refl _) _⟩
          · rw [a2] at hq HC
            have hT2 := (tgt_size a2).2
            have hu := u32_id (n := T.size) (by omega)
            cases a3 : decide (S = T.size)
            · have A3 := eqz a3
              rw [a3] at hq
              have HQ := Lib.hid (chI_no (n := ⟨K, M, L, S, T⟩) (by rw [hq]; rfl)).1
              clear hq a1 a2 a3
              go_enter Tryz.func184, Tryz.ntmps184
              go_wp2_with (go_at_call 203; refine (HC.out _).mono ?_; rintro e w' ⟨rfl, rfl⟩)
              go_ret
              exact ⟨by rw [HQ.out]; rfl, (Below.refl _ _).alloc (Nat.le_refl _) _⟩
            · have A3 := eqz a3
              rw [a3] at hq
              have HQ := Lib.hid (chI_yes (n := ⟨K, M, L, S, T⟩) (by rw [hq]; rfl)).1
              clear hq a1 a2 a3
              go_enter Tryz.func184, Tryz.ntmps184
              go_wp2_with (go_at_call 203; refine (HC.out _).mono ?_; rintro e w' ⟨rfl, rfl⟩)
              go_ret
              exact ⟨by rw [HQ.out]; rfl, (Below.refl _ _).alloc (Nat.le_refl _) _⟩
    · have K2 := eqz2 k2
      have k2' := of_decide_eq_true k2
      have hq : okI ⟨K, M, L, S, T⟩ = (decide (1 ≤ L) && decide (S ≤ 65536) && decide (T.size = 0)) := by unfold okI; dsimp only; rw [if_neg k1', if_pos k2']
      clear k1 k2 k1' k2'
      cases a1 : decide (1 ≤ L)
      · have A1 := lez1 a1
        rw [a1] at hq
        have HQ := Lib.hid (chI_no (n := ⟨K, M, L, S, T⟩) (by rw [hq]; rfl)).1
        clear hq a1
        go_enter Tryz.func184, Tryz.ntmps184
        go_wp2
        go_ret
        exact ⟨by rw [HQ.out]; rfl, (Below.refl _ _).alloc (Nat.le_refl _) _⟩
      · have A1 := lez1 a1
        rw [a1] at hq
        cases a2 : decide (S ≤ 65536)
        · have A2 := lezM a2
          rw [a2] at hq
          have HQ := Lib.hid (chI_no (n := ⟨K, M, L, S, T⟩) (by rw [hq]; rfl)).1
          clear hq a1 a2
          go_enter Tryz.func184, Tryz.ntmps184
          go_wp2
          go_ret
          exact ⟨by rw [HQ.out]; rfl, (Below.refl _ _).alloc (Nat.le_refl _) _⟩
        · have A2 := lezM a2
          rw [a2] at hq
          cases a3 : decide (T.size = 0)
          · obtain ⟨A3, A4⟩ := emp_of a3
            have A5 := emp_no (of_decide_eq_false a3)
            rw [a3] at hq
            have HQ := Lib.hid (chI_no (n := ⟨K, M, L, S, T⟩) (by rw [hq]; rfl)).1
            clear hq a1 a2 a3
            go_enter Tryz.func184, Tryz.ntmps184
            go_wp2
            go_ret
            exact ⟨by rw [HQ.out]; rfl, (Below.refl _ _).alloc (Nat.le_refl _) _⟩
          · obtain ⟨A3, A4⟩ := emp_of a3
            have A5 := emp_yes (of_decide_eq_true a3)
            rw [a3] at hq
            have HQ := Lib.hid (chI_yes (n := ⟨K, M, L, S, T⟩) (by rw [hq]; rfl)).1
            clear hq a1 a2 a3
            go_enter Tryz.func184, Tryz.ntmps184
            go_wp2
            go_ret
            exact ⟨by rw [HQ.out]; rfl, (Below.refl _ _).alloc (Nat.le_refl _) _⟩
  · have K1 := eqz1 k1
    have k1' := of_decide_eq_true k1
    have hq : okI ⟨K, M, L, S, T⟩ = (decide (L = 1) && decide (S = 0) && decide (T.size = 0)) := by unfold okI; dsimp only; rw [if_pos k1']
    clear k1 k1'
    cases a1 : decide (L = 1)
    · have A1 := eqz1 a1
      rw [a1] at hq
      have HQ := Lib.hid (chI_no (n := ⟨K, M, L, S, T⟩) (by rw [hq]; rfl)).1
      clear hq a1
      go_enter Tryz.func184, Tryz.ntmps184
      go_wp2
      go_ret
      exact ⟨by rw [HQ.out]; rfl, (Below.refl _ _).alloc (Nat.le_refl _) _⟩
    · have A1 := eqz1 a1
      rw [a1] at hq
      cases a2 : decide (S = 0)
      · have A2 := eqz0 a2
        rw [a2] at hq
        have HQ := Lib.hid (chI_no (n := ⟨K, M, L, S, T⟩) (by rw [hq]; rfl)).1
        clear hq a1 a2
        go_enter Tryz.func184, Tryz.ntmps184
        go_wp2
        go_ret
        exact ⟨by rw [HQ.out]; rfl, (Below.refl _ _).alloc (Nat.le_refl _) _⟩
      · have A2 := eqz0 a2
        rw [a2] at hq
        cases a3 : decide (T.size = 0)
        · obtain ⟨A3, A4⟩ := emp_of a3
          have A5 := emp_no (of_decide_eq_false a3)
          rw [a3] at hq
          have HQ := Lib.hid (chI_no (n := ⟨K, M, L, S, T⟩) (by rw [hq]; rfl)).1
          clear hq a1 a2 a3
          go_enter Tryz.func184, Tryz.ntmps184
          go_wp2
          go_ret
          exact ⟨by rw [HQ.out]; rfl, (Below.refl _ _).alloc (Nat.le_refl _) _⟩
        · obtain ⟨A3, A4⟩ := emp_of a3
          have A5 := emp_yes (of_decide_eq_true a3)
          rw [a3] at hq
          have HQ := Lib.hid (chI_yes (n := ⟨K, M, L, S, T⟩) (by rw [hq]; rfl)).1
          clear hq a1 a2 a3
          go_enter Tryz.func184, Tryz.ntmps184
          go_wp2
          go_ret
          exact ⟨by rw [HQ.out]; rfl, (Below.refl _ _).alloc (Nat.le_refl _) _⟩
theorem refTakeNat (s : ByteArray) (k m : Nat) (r : ByteArray) (x : Int) (hs : s.size ≤ maxLen) (hk : k ≤ 8) (hm : (tN s (k : Int)).toNat = m) (hr : tR s (k : Int) = r) (hx : tE s (k : Int) = x) (w : World) :
    Calls Tryz.prog 108 #[.string s, .int .i64 k] w fun e w' => e = .returned (.tuple #[.int .u64 (m : Int), .string r, .int .i64 x]) ∧ Below w.heap.size w w' := by
  have h := ref_take_any s k w hs
  rw [tn_nat s k hk, hm, hr, hx] at h
  exact h
theorem cut_cut (s : ByteArray) (a k : Nat) (h1 : 1 ≤ k) (h2 : k ≤ 8) (h : a + k ≤ s.size) : tR (s.extract a s.size) (k : Int) = s.extract (a + k) s.size := by
  have hz : (s.extract a s.size).size = s.size - a := by rw [ByteArray.size_extract]; omega
  rw [tR_of _ k h1 h2 (by omega), ByteArray.extract_extract, hz]
  congr 1
  omega
theorem first_num (s : ByteArray) (h : 0 < s.size) : (tN s ((1 : Nat) : Int)).toNat = s[0].toNat := by
  rw [tN_of s 1 (by omega) (by omega) (by omega), Int.toNat_natCast]
  have e : s.data.toList.take 1 = [s[0]] := by
    have hl : 0 < s.data.toList.length := by simpa using h
    have := List.take_succ_eq_append_getElem hl
    rw [List.take_zero, List.nil_append] at this
    exact this
  rw [e]
  simp [num]
theorem deI_of {s : ByteArray} {n : In} (hn : tkI s = n) (h : 11 ≤ s.size ∧ uE (tR (tR (tR (tR s 1) 2) 4) 4) = 0 ∧ uR (tR (tR (tR (tR s 1) 2) 4) 4) = ByteArray.empty ∧ okI n = true) : deI s = n ∧ deIE s = 0 := by
  have := (ask_same s).2 (by rw [hn]; exact h)
  unfold deI deIE
  rw [if_pos this, if_pos this]
  exact ⟨hn, rfl⟩
theorem deI_no {s : ByteArray} (h : ¬ (11 ≤ s.size ∧ uE (tR (tR (tR (tR s 1) 2) 4) 4) = 0 ∧ uR (tR (tR (tR (tR s 1) 2) 4) 4) = ByteArray.empty ∧ okI (tkI s) = true)) : deI s = zIn ∧ deIE s = 4 := by
  have : ¬ (okI (tkI s) = true ∧ wrI (tkI s) = s) := fun h2 => h ((ask_same s).1 h2)
  unfold deI deIE
  rw [if_neg this, if_neg this]
  exact ⟨rfl, rfl⟩
theorem new_row2 {w1 : World} {g : Nat} {o : Obj} {old cs : Array Value} {t : TypeId} (h : w1.heap[g]? = some o) : ((w1.alloc (.cells old t)).setRow w1.heap.size cs).heap[g]? = some o ∧ ((w1.alloc (.cells old t)).setRow w1.heap.size cs).heap[w1.heap.size]? = some (.cells cs t (0, 0)) ∧ Below w1.heap.size w1 ((w1.alloc (.cells old t)).setRow w1.heap.size cs) ∧ w1.heap.size < ((w1.alloc (.cells old t)).setRow w1.heap.size cs).heap.size := by
  have k := new_row (old := old) (cs := cs) (t := t) h rfl
  refine ⟨k.1, k.2.1, k.2.2, ?_⟩
  rcases Nat.lt_or_ge w1.heap.size ((w1.alloc (.cells old t)).setRow w1.heap.size cs).heap.size with h' | h'
  · exact h'
  · have := k.2.1; rw [Array.getElem?_eq_none h'] at this; cases this
set_option maxRecDepth 100000 in
set_option maxHeartbeats 4000000 in
theorem refDecode_in (s : ByteArray) (hs : s.size ≤ maxLen) (w : World) :
    Calls Tryz.prog 143 #[.string s] w fun e w' => e = .returned (.tuple #[vI (deI s), .int .i64 (deIE s)]) ∧ Below w.heap.size w w' := by
  have R0 := Lib.hid (heap_alloc_new w (.cells #[.int .u8 0, .int .u16 0, .int .u32 0, .int .u32 0, .string ⟨#[]⟩] 33))
  have B0 := Lib.hid ((Below.refl w.heap.size w).alloc (Nat.le_refl _) (.cells #[.int .u8 0, .int .u16 0, .int .u32 0, .int .u32 0, .string ⟨#[]⟩] 33))
  have hsz : w.heap.size < (w.alloc (.cells #[.int .u8 0, .int .u16 0, .int .u32 0, .int .u32 0, .string ⟨#[]⟩] 33)).heap.size := by simp
  by_cases h11 : 11 ≤ s.size
  · have d11 : decide ((s.size : Int) < 11) = false := by simp; omega
    have hlim := tkI_lim s
    obtain ⟨r1, h1⟩ : ∃ r, tR s ((1 : Nat) : Int) = r := ⟨_, rfl⟩
    have e1 : s.extract 1 s.size = r1 := by rw [← h1, tR_of s 1 (by omega) (by omega) (by omega)]
    obtain ⟨r2, h2⟩ : ∃ r, tR r1 ((2 : Nat) : Int) = r := ⟨_, rfl⟩
    have e3 : s.extract 3 s.size = r2 := by rw [← h2, ← e1, cut_cut s 1 2 (by omega) (by omega) (by omega)]
    obtain ⟨r3, h3⟩ : ∃ r, tR r2 ((4 : Nat) : Int) = r := ⟨_, rfl⟩
    have e7 : s.extract 7 s.size = r3 := by rw [← h3, ← e3, cut_cut s 3 4 (by omega) (by omega) (by omega)]
    obtain ⟨r4, h4⟩ : ∃ r, tR r3 ((4 : Nat) : Int) = r := ⟨_, rfl⟩
    have z0 := hs
    have z1 : r1.size ≤ maxLen := by rw [← h1]; exact Nat.le_trans (tR_le _ _) hs
    have z2 : r2.size ≤ maxLen := by rw [← h2]; exact Nat.le_trans (tR_le _ _) z1
    have z3 : r3.size ≤ maxLen := by rw [← h3]; exact Nat.le_trans (tR_le _ _) z2
    have z4 : r4.size ≤ maxLen := by rw [← h4]; exact Nat.le_trans (tR_le _ _) z3
    obtain ⟨K, hK⟩ : ∃ K, (tN s ((1 : Nat) : Int)).toNat = K := ⟨_, rfl⟩
    have k0 : s[0].toNat = K := by rw [← hK, first_num s (by omega)]
    obtain ⟨M, hM⟩ : ∃ K, (tN r1 ((2 : Nat) : Int)).toNat = K := ⟨_, rfl⟩
    obtain ⟨L, hL⟩ : ∃ K, (tN r2 ((4 : Nat) : Int)).toNat = K := ⟨_, rfl⟩
    obtain ⟨S, hS⟩ : ∃ K, (tN r3 ((4 : Nat) : Int)).toNat = K := ⟨_, rfl⟩
    obtain ⟨x1, hx1⟩ : ∃ x, tE r1 ((2 : Nat) : Int) = x := ⟨_, rfl⟩
    obtain ⟨x2, hx2⟩ : ∃ x, tE r2 ((4 : Nat) : Int) = x := ⟨_, rfl⟩
    obtain ⟨x3, hx3⟩ : ∃ x, tE r3 ((4 : Nat) : Int) = x := ⟨_, rfl⟩
    obtain ⟨T, hT⟩ : ∃ r, uT r4 = r := ⟨_, rfl⟩
    obtain ⟨Y, hY⟩ : ∃ r, uR r4 = r := ⟨_, rfl⟩
    obtain ⟨x, hx⟩ : ∃ r, uE r4 = r := ⟨_, rfl⟩
    have hn : tkI s = ⟨K, M, L, S, T⟩ := by subst hK h1 hM h2 hL h3 hS h4 hT; rfl
    have hTz : T.size ≤ maxLen := by
      rw [← hT]
      unfold uT
      split
      · rw [ByteArray.size_extract, ByteArray.size_extract]; omega
      · exact Nat.zero_le _
    have C1 := Lib.hid (refTakeNat r1 2 M r2 x1 z1 (by omega) hM h2 hx1)
    have C2 := Lib.hid (refTakeNat r2 4 L r3 x2 z2 (by omega) hL h3 hx2)
    have C3 := Lib.hid (refTakeNat r3 4 S r4 x3 z3 (by omega) hS h4 hx3)
    have C4 := Lib.hid (fun w => ref_taketext_any r4 w z4)
    rw [hT, hY, hx] at C4
    have h1' : tR s 1 = r1 := h1
    have h2' : tR r1 2 = r2 := h2
    have h3' : tR r2 4 = r3 := h3
    have h4' : tR r3 4 = r4 := h4
    have HY : Hid (x = 0 → Y = ByteArray.empty → okI ⟨K, M, L, S, T⟩ = true → deI s = ⟨K, M, L, S, T⟩ ∧ deIE s = 0) := Lib.hid (fun a b c => deI_of hn (by rw [h1', h2', h3', h4', hx, hY]; exact ⟨h11, a, b, c⟩))
    have HN : Hid (¬ (x = 0 ∧ Y = ByteArray.empty ∧ okI ⟨K, M, L, S, T⟩ = true) → deI s = zIn ∧ deIE s = 4) := Lib.hid (fun a => deI_no (by rw [h1', h2', h3', h4', hx, hY, hn]; exact fun h => a ⟨h.2.1, h.2.2.1, h.2.2.2⟩))
    rw [hn] at hlim
    have CK := Lib.hid (refCheck_in ⟨K, M, L, S, T⟩ hlim hTz)
    have CHY := Lib.hid (@chI_yes ⟨K, M, L, S, T⟩)
    have CHN := Lib.hid (@chI_no ⟨K, M, L, S, T⟩)
    unfold vI at CK
    dsimp only at CK
    obtain ⟨l1, l2, l3, l4⟩ := hlim
    dsimp only at l1 l2 l3 l4
    have U2 := Lib.hid (u16_id l2)
    have U3 := Lib.hid (u32_id l3)
    have U4 := Lib.hid (u32_id l4)
    have K0 := Lib.hid k0
    have E1 := Lib.hid e1
    have E3 := Lib.hid e3
    have E7 := Lib.hid e7
    have hpos : 0 < s.size := by omega
    unfold maxLen at hs
    clear hn hK h1 hM h2 hL h3 hS h4 hT hY hx hx1 hx2 hx3 z0 z1 z2 z3 z4 l1 l2 l3 l4 hTz k0 e1 e3 e7 h1' h2' h3' h4'
    go_enter Tryz.func143, Tryz.ntmps143
    go_wp2_with fail
    change Calls _ _ _ (w.alloc (.cells #[.int .u8 0, .int .u16 0, .int .u32 0, .int .u32 0, .string ⟨#[]⟩] 33)) _
    generalize w.alloc (.cells #[.int .u8 0, .int .u16 0, .int .u32 0, .int .u32 0, .string ⟨#[]⟩] 33) = W at *
    rw [E1.out]
    refine (C1.out _).mono ?_
    rintro e w1 ⟨rfl, hb⟩
    have R1 := Lib.hid (row_bel R0.out hb hsz)
    have B1 := Lib.hid (B0.out.trans (hb.mono B0.out.size))
    replace hsz := Nat.lt_of_lt_of_le hsz hb.size
    clear hb R0 B0 C1
    go_wp2_with fail
    rw [E3.out]
    refine (C2.out _).mono ?_
    rintro e w2 ⟨rfl, hb⟩
    have R2 := Lib.hid (row_bel R1.out hb hsz)
    have B2 := Lib.hid (B1.out.trans (hb.mono B1.out.size))
    replace hsz := Nat.lt_of_lt_of_le hsz hb.size
    clear hb R1 B1 C2
    go_wp2_with fail
    rw [E7.out]
    refine (C3.out _).mono ?_
    rintro e w3 ⟨rfl, hb⟩
    have R3 := Lib.hid (row_bel R2.out hb hsz)
    have B3 := Lib.hid (B2.out.trans (hb.mono B2.out.size))
    replace hsz := Nat.lt_of_lt_of_le hsz hb.size
    clear hb R2 B2 C3
    go_wp2_with fail
    refine (C4.out _).mono ?_
    rintro e w4 ⟨rfl, hb⟩
    have R4 := Lib.hid (row_bel R3.out hb hsz)
    have B4 := Lib.hid (B3.out.trans (hb.mono B3.out.size))
    replace hsz := Nat.lt_of_lt_of_le hsz hb.size
    clear hb R3 B3 C4
    have N1 := Lib.hid (new_row2 (old := #[.int .u8 0, .int .u16 0, .int .u32 0, .int .u32 0, .string ⟨#[]⟩]) (cs := #[.int .u8 K, .int .u16 M, .int .u32 L, .int .u32 S, .string T]) (t := 33) R4.out)
    have u2 := U2.out
    have u3 := U3.out
    have u4 := U4.out
    have kk : ((s[0].toNat : Nat) : Int) = (K : Int) := by rw [K0.out]
    have zz := setRow_heap' (cs := #[.int .u8 0, .int .u16 0, .int .u32 0, .int .u32 0, .string ⟨#[]⟩]) R4.out
    have fin : Hid (∀ (V : World), V.heap[w.heap.size]? = some (.cells #[.int .u8 0, .int .u16 0, .int .u32 0, .int .u32 0, .string ⟨#[]⟩] 33 (0, 0)) → ∀ cs, (V.setRow w.heap.size cs).heap[w.heap.size]? = some (.cells cs 33 (0, 0))) := Lib.hid (fun V h cs => setRow_heap' h)
    clear zz
    by_cases hx0 : x = 0
    · have x1 : (x != 0) = false := by rw [hx0]; rfl
      by_cases hY0 : Y.size = 0
      · obtain ⟨y1, y2⟩ := emp_of (decide_eq_true hY0)
        have y3 := emp_yes hY0
        have HY2 := Lib.hid (HY.out hx0 (size0 hY0))
        have HN2 := Lib.hid (fun h : okI ⟨K, M, L, S, T⟩ = false => HN.out (by rintro ⟨_, _, h2⟩; rw [h] at h2; cases h2))
        subst hx0
        clear hY0 HY HN
        go_wp2_with (refine wpList_store_row rfl 33 (.tmp 16) (.tmp 57) rfl w4.heap.size #[.int .u8 K, .int .u16 M, .int .u32 L, .int .u32 S, .string T] rfl rfl 33 #[.int .u8 0, .int .u16 0, .int .u32 0, .int .u32 0, .string ⟨#[]⟩] (heap_alloc_new w4 _) (by kernel_rfl) rfl (row5 _ _ _ _ _) ?_; change wpList _ _ _ _ _ ((w4.alloc (.cells #[.int .u8 0, .int .u16 0, .int .u32 0, .int .u32 0, .string ⟨#[]⟩] 33)).setRow w4.heap.size #[.int .u8 K, .int .u16 M, .int .u32 L, .int .u32 S, .string T]); generalize ((w4.alloc (.cells #[.int .u8 0, .int .u16 0, .int .u32 0, .int .u32 0, .string ⟨#[]⟩] 33)).setRow w4.heap.size #[.int .u8 K, .int .u16 M, .int .u32 L, .int .u32 S, .string T]) = W5 at *; have c0 : W5.cell? ⟨w4.heap.size, 0, none⟩ = some (.int .u8 K) := (cell_of_row W5 w4.heap.size 0 #[.int .u8 K, .int .u16 M, .int .u32 L, .int .u32 S, .string T] 33 (0, 0) N1.out.2.1).trans rfl; have c1 : W5.cell? ⟨w4.heap.size, 1, none⟩ = some (.int .u16 M) := (cell_of_row W5 w4.heap.size 1 #[.int .u8 K, .int .u16 M, .int .u32 L, .int .u32 S, .string T] 33 (0, 0) N1.out.2.1).trans rfl; have c2 : W5.cell? ⟨w4.heap.size, 2, none⟩ = some (.int .u32 L) := (cell_of_row W5 w4.heap.size 2 #[.int .u8 K, .int .u16 M, .int .u32 L, .int .u32 S, .string T] 33 (0, 0) N1.out.2.1).trans rfl; have c3 : W5.cell? ⟨w4.heap.size, 3, none⟩ = some (.int .u32 S) := (cell_of_row W5 w4.heap.size 3 #[.int .u8 K, .int .u16 M, .int .u32 L, .int .u32 S, .string T] 33 (0, 0) N1.out.2.1).trans rfl; have c4 : W5.cell? ⟨w4.heap.size, 4, none⟩ = some (.string T) := (cell_of_row W5 w4.heap.size 4 #[.int .u8 K, .int .u16 M, .int .u32 L, .int .u32 S, .string T] 33 (0, 0) N1.out.2.1).trans rfl)
        refine (CK.out _).mono ?_
        rintro e w6 ⟨rfl, hb⟩
        have R6 := Lib.hid (row_bel N1.out.1 hb (by have h1 := N1.out.2.2.2; omega))
        have Rn := Lib.hid (row_bel N1.out.2.1 hb N1.out.2.2.2)
        have B6 := Lib.hid (B4.out.trans ((N1.out.2.2.1.trans (hb.mono N1.out.2.2.1.size)).mono B4.out.size))
        have d0 := (cell_of_row w6 w4.heap.size 0 #[.int .u8 K, .int .u16 M, .int .u32 L, .int .u32 S, .string T] 33 (0, 0) Rn.out).trans rfl
        have d1 := (cell_of_row w6 w4.heap.size 1 #[.int .u8 K, .int .u16 M, .int .u32 L, .int .u32 S, .string T] 33 (0, 0) Rn.out).trans rfl
        have d2 := (cell_of_row w6 w4.heap.size 2 #[.int .u8 K, .int .u16 M, .int .u32 L, .int .u32 S, .string T] 33 (0, 0) Rn.out).trans rfl
        have d3 := (cell_of_row w6 w4.heap.size 3 #[.int .u8 K, .int .u16 M, .int .u32 L, .int .u32 S, .string T] 33 (0, 0) Rn.out).trans rfl
        have d4 := (cell_of_row w6 w4.heap.size 4 #[.int .u8 K, .int .u16 M, .int .u32 L, .int .u32 S, .string T] 33 (0, 0) Rn.out).trans rfl
        clear hb c0 c1 c2 c3 c4 N1 R4 B4 CK
        cases hq : okI ⟨K, M, L, S, T⟩
        · have HF := Lib.hid (HN2.out hq)
          rw [(CHN.out hq).1]
          clear hq HY2 HN2 CHY CHN
          go_wp2_with (refine wpList_store_row rfl 33 (.tmp 2) (.tmp 69) rfl w.heap.size #[.int .u8 0, .int .u16 0, .int .u32 0, .int .u32 0, .string ⟨#[]⟩] rfl rfl 33 #[.int .u8 0, .int .u16 0, .int .u32 0, .int .u32 0, .string ⟨#[]⟩] R6.out (by kernel_rfl) rfl (row5 _ _ _ _ _) ?_)
          refine bodyPost_ret (v := .tuple #[.agg #[.int .u8 0, .int .u16 0, .int .u32 0, .int .u32 0, .string ⟨#[]⟩], .int .i64 4]) (results_row2 rfl _ _ w.heap.size 33 #[.int .u8 0, .int .u16 0, .int .u32 0, .int .u32 0, .string ⟨#[]⟩] (0, 0) _ rfl (fin.out _ R6.out _) Tryz.underlying33 rfl (by kernel_rfl) _ rfl) rfl ?_
          exact ⟨by rw [HF.out.1, HF.out.2]; rfl, below_setRow B6.out (Nat.le_refl _) _⟩
        · have HF := Lib.hid (HY2.out hq)
          rw [(CHY.out hq).1]
          clear hq HY2 HN2 CHY CHN
          go_wp2_with (first
            | (refine wpList_load_row rfl 33 (.tmp 16) rfl w4.heap.size rfl 33 #[.int .u8 K, .int .u16 M, .int .u32 L, .int .u32 S, .string T] (0, 0) _ Rn.out Tryz.underlying33 rfl (by kernel_rfl) ?_)
            | (refine wpList_store_row rfl 33 (.tmp 2) (.tmp 70) rfl w.heap.size #[.int .u8 K, .int .u16 M, .int .u32 L, .int .u32 S, .string T] rfl rfl 33 #[.int .u8 0, .int .u16 0, .int .u32 0, .int .u32 0, .string ⟨#[]⟩] R6.out (by kernel_rfl) rfl (row5 _ _ _ _ _) ?_))
          refine bodyPost_ret (v := .tuple #[.agg #[.int .u8 K, .int .u16 M, .int .u32 L, .int .u32 S, .string T], .int .i64 0]) (results_row2 rfl _ _ w.heap.size 33 #[.int .u8 K, .int .u16 M, .int .u32 L, .int .u32 S, .string T] (0, 0) _ rfl (fin.out _ R6.out _) Tryz.underlying33 rfl (by kernel_rfl) _ rfl) rfl ?_
          exact ⟨by rw [HF.out.1, HF.out.2]; rfl, below_setRow B6.out (Nat.le_refl _) _⟩
      · obtain ⟨y1, y2⟩ := emp_of (decide_eq_false hY0)
        have y3 := emp_no hY0
        have HF := Lib.hid (HN.out (by rintro ⟨_, h2, _⟩; rw [h2] at hY0; exact hY0 rfl))
        subst hx0
        clear hY0 HY HN CK CHY CHN
        go_wp2_with (first
          | (refine wpList_store_row rfl 33 (.tmp 16) (.tmp 57) rfl w4.heap.size #[.int .u8 K, .int .u16 M, .int .u32 L, .int .u32 S, .string T] rfl rfl 33 #[.int .u8 0, .int .u16 0, .int .u32 0, .int .u32 0, .string ⟨#[]⟩] (heap_alloc_new w4 _) (by kernel_rfl) rfl (row5 _ _ _ _ _) ?_; change wpList _ _ _ _ _ ((w4.alloc (.cells #[.int .u8 0, .int .u16 0, .int .u32 0, .int .u32 0, .string ⟨#[]⟩] 33)).setRow w4.heap.size #[.int .u8 K, .int .u16 M, .int .u32 L, .int .u32 S, .string T]); generalize ((w4.alloc (.cells #[.int .u8 0, .int .u16 0, .int .u32 0, .int .u32 0, .string ⟨#[]⟩] 33)).setRow w4.heap.size #[.int .u8 K, .int .u16 M, .int .u32 L, .int .u32 S, .string T]) = W5 at *; have c0 : W5.cell? ⟨w4.heap.size, 0, none⟩ = some (.int .u8 K) := (cell_of_row W5 w4.heap.size 0 #[.int .u8 K, .int .u16 M, .int .u32 L, .int .u32 S, .string T] 33 (0, 0) N1.out.2.1).trans rfl; have c1 : W5.cell? ⟨w4.heap.size, 1, none⟩ = some (.int .u16 M) := (cell_of_row W5 w4.heap.size 1 #[.int .u8 K, .int .u16 M, .int .u32 L, .int .u32 S, .string T] 33 (0, 0) N1.out.2.1).trans rfl; have c2 : W5.cell? ⟨w4.heap.size, 2, none⟩ = some (.int .u32 L) := (cell_of_row W5 w4.heap.size 2 #[.int .u8 K, .int .u16 M, .int .u32 L, .int .u32 S, .string T] 33 (0, 0) N1.out.2.1).trans rfl; have c3 : W5.cell? ⟨w4.heap.size, 3, none⟩ = some (.int .u32 S) := (cell_of_row W5 w4.heap.size 3 #[.int .u8 K, .int .u16 M, .int .u32 L, .int .u32 S, .string T] 33 (0, 0) N1.out.2.1).trans rfl; have c4 : W5.cell? ⟨w4.heap.size, 4, none⟩ = some (.string T) := (cell_of_row W5 w4.heap.size 4 #[.int .u8 K, .int .u16 M, .int .u32 L, .int .u32 S, .string T] 33 (0, 0) N1.out.2.1).trans rfl)
          | (refine wpList_store_row rfl 33 (.tmp 2) (.tmp 69) rfl w.heap.size #[.int .u8 0, .int .u16 0, .int .u32 0, .int .u32 0, .string ⟨#[]⟩] rfl rfl 33 #[.int .u8 0, .int .u16 0, .int .u32 0, .int .u32 0, .string ⟨#[]⟩] N1.out.1 (by kernel_rfl) rfl (row5 _ _ _ _ _) ?_))
        refine bodyPost_ret (v := .tuple #[.agg #[.int .u8 0, .int .u16 0, .int .u32 0, .int .u32 0, .string ⟨#[]⟩], .int .i64 4]) (results_row2 rfl _ _ w.heap.size 33 #[.int .u8 0, .int .u16 0, .int .u32 0, .int .u32 0, .string ⟨#[]⟩] (0, 0) _ rfl (fin.out _ N1.out.1 _) Tryz.underlying33 rfl (by kernel_rfl) _ rfl) rfl ?_
        exact ⟨by rw [HF.out.1, HF.out.2]; rfl, below_setRow (B4.out.trans (N1.out.2.2.1.mono B4.out.size)) (Nat.le_refl _) _⟩
    · have x1' : (x == 0) = false := by rw [beq_eq_false_iff_ne]; exact hx0
      have x1 : (x != 0) = true := by rw [bne, x1']; rfl
      have HF := Lib.hid (HN.out (fun h => hx0 h.1))
      clear hx0 HY HN CK CHY CHN
      go_wp2_with (first
        | (refine wpList_store_row rfl 33 (.tmp 16) (.tmp 57) rfl w4.heap.size #[.int .u8 K, .int .u16 M, .int .u32 L, .int .u32 S, .string T] rfl rfl 33 #[.int .u8 0, .int .u16 0, .int .u32 0, .int .u32 0, .string ⟨#[]⟩] (heap_alloc_new w4 _) (by kernel_rfl) rfl (row5 _ _ _ _ _) ?_; change wpList _ _ _ _ _ ((w4.alloc (.cells #[.int .u8 0, .int .u16 0, .int .u32 0, .int .u32 0, .string ⟨#[]⟩] 33)).setRow w4.heap.size #[.int .u8 K, .int .u16 M, .int .u32 L, .int .u32 S, .string T]); generalize ((w4.alloc (.cells #[.int .u8 0, .int .u16 0, .int .u32 0, .int .u32 0, .string ⟨#[]⟩] 33)).setRow w4.heap.size #[.int .u8 K, .int .u16 M, .int .u32 L, .int .u32 S, .string T]) = W5 at *; have c0 : W5.cell? ⟨w4.heap.size, 0, none⟩ = some (.int .u8 K) := (cell_of_row W5 w4.heap.size 0 #[.int .u8 K, .int .u16 M, .int .u32 L, .int .u32 S, .string T] 33 (0, 0) N1.out.2.1).trans rfl; have c1 : W5.cell? ⟨w4.heap.size, 1, none⟩ = some (.int .u16 M) := (cell_of_row W5 w4.heap.size 1 #[.int .u8 K, .int .u16 M, .int .u32 L, .int .u32 S, .string T] 33 (0, 0) N1.out.2.1).trans rfl; have c2 : W5.cell? ⟨w4.heap.size, 2, none⟩ = some (.int .u32 L) := (cell_of_row W5 w4.heap.size 2 #[.int .u8 K, .int .u16 M, .int .u32 L, .int .u32 S, .string T] 33 (0, 0) N1.out.2.1).trans rfl; have c3 : W5.cell? ⟨w4.heap.size, 3, none⟩ = some (.int .u32 S) := (cell_of_row W5 w4.heap.size 3 #[.int .u8 K, .int .u16 M, .int .u32 L, .int .u32 S, .string T] 33 (0, 0) N1.out.2.1).trans rfl; have c4 : W5.cell? ⟨w4.heap.size, 4, none⟩ = some (.string T) := (cell_of_row W5 w4.heap.size 4 #[.int .u8 K, .int .u16 M, .int .u32 L, .int .u32 S, .string T] 33 (0, 0) N1.out.2.1).trans rfl)
        | (refine wpList_store_row rfl 33 (.tmp 2) (.tmp 69) rfl w.heap.size #[.int .u8 0, .int .u16 0, .int .u32 0, .int .u32 0, .string ⟨#[]⟩] rfl rfl 33 #[.int .u8 0, .int .u16 0, .int .u32 0, .int .u32 0, .string ⟨#[]⟩] N1.out.1 (by kernel_rfl) rfl (row5 _ _ _ _ _) ?_))
      refine bodyPost_ret (v := .tuple #[.agg #[.int .u8 0, .int .u16 0, .int .u32 0, .int .u32 0, .string ⟨#[]⟩], .int .i64 4]) (results_row2 rfl _ _ w.heap.size 33 #[.int .u8 0, .int .u16 0, .int .u32 0, .int .u32 0, .string ⟨#[]⟩] (0, 0) _ rfl (fin.out _ N1.out.1 _) Tryz.underlying33 rfl (by kernel_rfl) _ rfl) rfl ?_
      exact ⟨by rw [HF.out.1, HF.out.2]; rfl, below_setRow (B4.out.trans (N1.out.2.2.1.mono B4.out.size)) (Nat.le_refl _) _⟩
  · have d11 : decide ((s.size : Int) < 11) = true := by simp; omega
    have HN := Lib.hid (deI_no (s := s) (fun h => h11 h.1))
    have HZ := Lib.hid (setRow_heap' (cs := #[.int .u8 0, .int .u16 0, .int .u32 0, .int .u32 0, .string ⟨#[]⟩]) R0.out)
    have BZ := Lib.hid (below_setRow B0.out (Nat.le_refl _) #[.int .u8 0, .int .u16 0, .int .u32 0, .int .u32 0, .string ⟨#[]⟩])
    go_enter Tryz.func143, Tryz.ntmps143
    go_wp2_with (refine wpList_store_row rfl 33 (.tmp 2) (.tmp 20) rfl w.heap.size #[.int .u8 0, .int .u16 0, .int .u32 0, .int .u32 0, .string ⟨#[]⟩] rfl rfl 33 #[.int .u8 0, .int .u16 0, .int .u32 0, .int .u32 0, .string ⟨#[]⟩] R0.out (by kernel_rfl) rfl (row5 _ _ _ _ _) ?_)
    refine bodyPost_ret (v := .tuple #[.agg #[.int .u8 0, .int .u16 0, .int .u32 0, .int .u32 0, .string ⟨#[]⟩], .int .i64 4]) (results_row2 rfl _ _ w.heap.size 33 #[.int .u8 0, .int .u16 0, .int .u32 0, .int .u32 0, .string ⟨#[]⟩] (0, 0) _ rfl HZ.out Tryz.underlying33 rfl (by kernel_rfl) _ rfl) rfl ?_
    exact ⟨by rw [HN.out.1, HN.out.2]; rfl, BZ.out⟩
end Go.Proofs.YtjkmfonngbendaaGreatDoor.Ino
/- Contracts of package inode: keys as bytes, there and back. -/
namespace Go.Proofs.YtjkmfonngbendaaGreatDoor.Ino
set_option linter.unusedVariables false
set_option linter.unusedSimpArgs false
open Go.ChangeShapes Go.WideShapes Go.ChangeAt Go.RowKit
open Rg
open Pk (be num be_length num_be num_lt bs bs_size nB nE tN tR tE xB_size)
open Ph (has tl tl_len nb contains_any name_any)
theorem ltB_size {K : Nat} : (ltB K).size ≤ 1 := by
  unfold ltB lt
  rw [bs_size]
  repeat' split
  all_goals decide
theorem new_letters (w : World) : LtAt (w.alloc (.cells #[.int .u32 0, .int .i32 0, .int .u32 0, .string ⟨#[]⟩, .string ⟨#[]⟩, .string ⟨#[]⟩, .string ⟨#[]⟩, .string ⟨#[]⟩] 195)) w.heap.size false := by
  refine ⟨?_, fun i hi => ?_⟩
  · intro i v hv
    rw [Nat.zero_add]
    refine (cell_of_row (w.alloc (.cells #[.int .u32 0, .int .i32 0, .int .u32 0, .string ⟨#[]⟩, .string ⟨#[]⟩, .string ⟨#[]⟩, .string ⟨#[]⟩, .string ⟨#[]⟩] 195)) w.heap.size i #[.int .u32 0, .int .i32 0, .int .u32 0, .string ⟨#[]⟩, .string ⟨#[]⟩, .string ⟨#[]⟩, .string ⟨#[]⟩, .string ⟨#[]⟩] 195 (0, 0) (heap_alloc_new w _)).trans ?_
    rw [← hv]
    show (lRow false).toArray[i]? = (lRow false)[i]?
    exact List.getElem?_toArray ..
  · exact frozen_of_row (w.alloc (.cells #[.int .u32 0, .int .i32 0, .int .u32 0, .string ⟨#[]⟩, .string ⟨#[]⟩, .string ⟨#[]⟩, .string ⟨#[]⟩, .string ⟨#[]⟩] 195)) w.heap.size i #[.int .u32 0, .int .i32 0, .int .u32 0, .string ⟨#[]⟩, .string ⟨#[]⟩, .string ⟨#[]⟩, .string ⟨#[]⟩, .string ⟨#[]⟩] 195 (heap_alloc_new w _)
set_option maxRecDepth 100000 in
set_option maxHeartbeats 1000000 in
theorem prefix_in (K I : Nat) (hK : K < 256) (hI : I < 4294967296) (w : World) :
    Calls Tryz.prog 70 #[.int .u8 K, .int .u32 I] w fun e w' => e = .returned (.string (pfx K I)) ∧ Below w.heap.size w w' := by
  have HL := Lib.hid (new_letters w)
  have B0 := Lib.hid ((Below.refl w.heap.size w).alloc (Nat.le_refl _) (.cells #[.int .u32 0, .int .i32 0, .int .u32 0, .string ⟨#[]⟩, .string ⟨#[]⟩, .string ⟨#[]⟩, .string ⟨#[]⟩, .string ⟨#[]⟩] 195))
  have hz := ltB_size (K := K)
  have u := u64_id (n := I) (by omega)
  have HU := Lib.hid u
  have HN := Lib.hid (fun w => number_in I 4 w (by omega) (by omega) (by omega) (by omega))
  have hbz : (bs (be 4 I)).size = 4 := by rw [bs_size, be_length]
  clear u
  by_cases h0 : lt K = []
  · have HP := Lib.hid (show pfx K I = ByteArray.empty by unfold pfx; rw [if_pos h0])
    have e0 : (ltB K).size = 0 := by unfold ltB; rw [h0]; rfl
    obtain ⟨e1, e2⟩ := emp_of (decide_eq_true e0)
    have e3 := emp_yes e0
    clear h0 e0
    go_enter Tryz.func70, Tryz.ntmps70
    go_wp2_with fail
    change Calls _ _ _ (w.alloc (.cells #[.int .u32 0, .int .i32 0, .int .u32 0, .string ⟨#[]⟩, .string ⟨#[]⟩, .string ⟨#[]⟩, .string ⟨#[]⟩, .string ⟨#[]⟩] 195)) _
    refine (of_any w.heap.size K false hK _ HL.out).mono ?_
    rintro e w1 ⟨rfl, h1, hb⟩
    go_wp2
    go_ret
    exact ⟨by rw [HP.out]; rfl, B0.out.trans hb⟩
  · have HP := Lib.hid (show pfx K I = ltB K ++ bs (be 4 I) by unfold pfx; rw [if_neg h0]; rfl)
    have e0 : ¬ (ltB K).size = 0 := by
      unfold ltB
      rw [bs_size]
      intro h
      exact h0 (List.eq_nil_of_length_eq_zero h)
    obtain ⟨e1, e2⟩ := emp_of (decide_eq_false e0)
    have e3 := emp_no e0
    clear h0 e0
    go_enter Tryz.func70, Tryz.ntmps70
    go_wp2_with fail
    change Calls _ _ _ (w.alloc (.cells #[.int .u32 0, .int .i32 0, .int .u32 0, .string ⟨#[]⟩, .string ⟨#[]⟩, .string ⟨#[]⟩, .string ⟨#[]⟩, .string ⟨#[]⟩] 195)) _
    refine (of_any w.heap.size K false hK _ HL.out).mono ?_
    rintro e w1 ⟨rfl, h1, hb⟩
    have B1 := Lib.hid (B0.out.trans hb)
    clear hb h1
    have u := HU.out
    go_wp2_with (go_at_call 79; refine (HN.out _).mono ?_; rintro e w' ⟨rfl, hb⟩)
    go_ret
    exact ⟨by rw [HP.out]; rfl, B1.out.trans (hb.mono B1.out.size)⟩
/-- what a letter cuts off -/
theorem cut_letter (s : ByteArray) (K : Nat) (h1 : 1 ≤ K) (h2 : K ≤ 4) (w : World) :
    Calls Tryz.prog 137 #[.string s, .string (ltB K)] w fun e w' => e = .returned (.tuple #[.string (if kd s = K then s.extract 1 s.size else s), .bool (decide (kd s = K))]) ∧ w = w' := by
  refine (Tryz.strings_CutPrefix s (ltB K) w).mono ?_
  rintro e w' ⟨rfl, rfl⟩
  refine ⟨?_, rfl⟩
  have key : ∀ (c : UInt8) (l : List UInt8), Lib.hasPrefix l [c] = (l.head? == some c) := by
    intro c l
    cases l with
    | nil => rfl
    | cons a l =>
      show ((c : UInt8) == a && true) = (some a == some c)
      rw [Bool.and_true, Bool.eq_iff_iff, beq_iff_eq, beq_iff_eq]
      exact ⟨fun h => by rw [h], fun h => by injection h with h; exact h.symm⟩
  obtain ⟨c, hc, hkd⟩ : ∃ c : UInt8, ltB K = ⟨#[c]⟩ ∧ (kd s = K ↔ s.data.toList.head? = some c) := by
    have hk : ∀ c : UInt8, (match s.data.toList with | a :: _ => if a = 105 then 1 else if a = 100 then 2 else if a = 99 then 3 else if a = 120 then 4 else 0 | [] => 0) = kd s := fun _ => rfl
    rcases (show K = 1 ∨ K = 2 ∨ K = 3 ∨ K = 4 by omega) with rfl | rfl | rfl | rfl
    · refine ⟨105, rfl, ?_⟩
      unfold kd
      cases s.data.toList with
      | nil => simp
      | cons a l =>
        simp only [List.head?_cons, Option.some.injEq]
        by_cases e1 : a = 105
        · simp [e1]
        · rw [if_neg e1]; simp only [e1, iff_false]
          repeat' split
          all_goals omega
    · refine ⟨100, rfl, ?_⟩
      unfold kd
      cases s.data.toList with
      | nil => simp
      | cons a l =>
        simp only [List.head?_cons, Option.some.injEq]
        by_cases e1 : a = 100
        · simp [e1]
        · simp only [e1, if_false, iff_false]
          repeat' split
          all_goals omega
    · refine ⟨99, rfl, ?_⟩
      unfold kd
      cases s.data.toList with
      | nil => simp
      | cons a l =>
        simp only [List.head?_cons, Option.some.injEq]
        by_cases e1 : a = 99
        · simp [e1]
        · simp only [e1, if_false, iff_false]
          repeat' split
          all_goals omega
    · refine ⟨120, rfl, ?_⟩
      unfold kd
      cases s.data.toList with
      | nil => simp
      | cons a l =>
        simp only [List.head?_cons, Option.some.injEq]
        by_cases e1 : a = 120
        · simp [e1]
        · simp only [e1, if_false, iff_false]
          repeat' split
          all_goals omega
  rw [hc]
  have hp : Lib.hasPrefix s.data.toList [c] = decide (kd s = K) := by
    rw [key, Bool.eq_iff_iff, beq_iff_eq, decide_eq_true_iff]
    exact hkd.symm
  show Ending.returned (.tuple #[.string ⟨(Lib.trimPrefix s.data.toList [c]).toArray⟩, .bool (Lib.hasPrefix s.data.toList [c])]) = _
  unfold Lib.trimPrefix
  rw [hp]
  by_cases h : kd s = K
  · rw [decide_eq_true h, if_pos rfl, if_pos h]
    congr 4
    congr 1
    apply ByteArray.ext
    apply Array.toList_inj.1
    rw [ByteArray.data_extract, Array.toList_extract, List.extract_eq_take_drop, List.take_of_length_le (by rw [List.length_drop, Array.length_toList]; exact Nat.le_refl _)]
    rfl
  · rw [decide_eq_false h, if_neg (by decide), if_neg h]
set_option maxRecDepth 100000 in
set_option maxHeartbeats 2000000 in
theorem take_in (s : ByteArray) (g : Nat) (b0 : Bool) (w : World) (h0 : LtAt w g b0) :
    Calls Tryz.prog 163 #[.pointer (some ⟨g, 0, none⟩), .string s] w fun e w' => e = .returned (.tuple #[.int .u8 (kd s), .string (rs s)]) ∧ Below g w w' := by
  have hle := kd_le s
  have H0 := Lib.hid h0
  clear h0
  go_enter Tryz.func163, Tryz.ntmps163
  go_wp2_with fail
  go_loopw [6] (fun v wr => ∃ (k : Nat) (b : Bool), 1 ≤ k ∧ k ≤ 5 ∧ v = .int .u8 k ∧ (kd s = 0 ∨ k ≤ kd s) ∧ Hid (LtAt wr g b) ∧ Hid (Below g w wr)) (fun v _ => 5 - (intOf v).toNat)
  case atStart => exact ⟨1, b0, Nat.le_refl _, by omega, by go_num, by omega, H0, Lib.hid (Below.refl _ _)⟩
  case round =>
    obtain ⟨k, b, hk1, hk5, rfl, hkd, HL, HB⟩ := hrel
    by_cases hlt : k < 5
    · have HC := Lib.hid (cut_letter s k hk1 (by omega))
      have HO := Lib.hid (of_any g k b (by omega) wr (Hid.out HL))
      clear HL
      by_cases he : kd s = k
      · have HR := Lib.hid (show rs s = s.extract 1 s.size by unfold rs; rw [if_neg (by omega)])
        have HE := Lib.hid he
        rw [if_pos he, decide_eq_true he] at HC
        clear he hkd
        go_wp2_with (first
          | (go_at_call 119; refine HO.out.mono ?_; rintro e w1 ⟨rfl, h1, hb⟩)
          | (go_at_call 137; refine (HC.out _).mono ?_; rintro e w' ⟨rfl, rfl⟩))
        go_ret2
        exact ⟨by rw [HR.out, HE.out]; rfl, (Hid.out HB).trans hb⟩
      · rw [if_neg he, decide_eq_false he] at HC
        have hkd2 : kd s = 0 ∨ k + 1 ≤ kd s := by omega
        clear he hkd
        have u : IntKind.u8.wrap ((k : Int) + 1) = (k : Int) + 1 := u8_id (n := k + 1) (by omega)
        have HU := Lib.hid u
        clear u
        go_wp2_with fail
        refine HO.out.mono ?_
        rintro e w1 ⟨rfl, h1, hb⟩
        have HL2 := Lib.hid h1
        have HB2 := Lib.hid ((Hid.out HB).trans hb)
        clear h1 hb
        have u := HU.out
        go_wp2_with (go_at_call 137; refine (HC.out _).mono ?_; rintro e w' ⟨rfl, rfl⟩)
        refine ⟨⟨k + 1, true, by omega, by omega, by go_num, hkd2, HL2, HB2⟩, ?_⟩
        clear u
        simp [intOf]; omega
    · have hz : kd s = 0 := by omega
      have HZ := Lib.hid hz
      have HR := Lib.hid (show rs s = s by unfold rs; rw [if_pos hz])
      obtain rfl : k = 5 := by omega
      clear hz hkd
      go_wp2
      go_ret2
      exact ⟨by rw [HR.out, HZ.out]; rfl, Hid.out HB⟩
end Go.Proofs.YtjkmfonngbendaaGreatDoor.Ino
/- Contracts of package inode: what a right key is, its bytes, there and back. -/
namespace Go.Proofs.YtjkmfonngbendaaGreatDoor.Ino
set_option linter.unusedVariables false
set_option linter.unusedSimpArgs false
open Go.ChangeShapes Go.WideShapes Go.ChangeAt Go.RowKit
open Rg
open Pk (be num be_length num_be num_lt bs bs_size nB nE tN tR tE xB_size)
open Ph (has tl tl_len nb contains_any name_any)
theorem ltz {a b : Nat} {q : Bool} (h : decide (a < b) = q) : decide ((a : Int) < (b : Int)) = q := by
  rw [← h]; exact decide_eq_decide.2 (by omega)
theorem ltzC {a : Nat} {q : Bool} (h : decide (a < 512) = q) : decide ((a : Int) < 512) = q := ltz (b := 512) h
set_option maxRecDepth 100000 in
set_option maxHeartbeats 2000000 in
theorem rightKey_in (k : Ky) (hl : k.lim) (w : World) :
    Calls Tryz.prog 38 #[vK k] w fun e w' => e = .returned (.bool (okK k)) ∧ Below w.heap.size w w' := by
  obtain ⟨K, I, N, C⟩ := k
  obtain ⟨l1, l2, l3⟩ := hl
  dsimp only at l1 l2 l3
  unfold vK
  dsimp only
  have HNm := Lib.hid (fun w => name_any N w (contains_any N))
  have hq : okK ⟨K, I, N, C⟩ = (decide (1 ≤ I) && (if K = 1 then decide (N.size = 0) && decide (C = 0) else if K = 2 ∨ K = 4 then nb N && decide (C = 0) else if K = 3 then decide (N.size = 0) && decide (C < 512) else false)) := rfl
  cases i0 : decide (I = 0)
  · have I0 := eqz0 i0
    have i1 : decide (1 ≤ I) = true := decide_eq_true (by have := of_decide_eq_false i0; omega)
    rw [i1, Bool.true_and] at hq
    clear i1 i0
    cases k1 : decide (K = 1)
    · have K1 := eqz1 k1
      have k1' := of_decide_eq_false k1
      rw [if_neg k1'] at hq
      cases k2 : decide (K = 2)
      · have K2 := eqz2 k2
        have k2' := of_decide_eq_false k2
        cases k4 : decide (K = 4)
        · have K4 := eqz4 k4
          have k4' := of_decide_eq_false k4
          rw [if_neg (by omega)] at hq
          cases k3 : decide (K = 3)
          · have K3 := eqz3 k3
            have k3' := of_decide_eq_false k3
            rw [if_neg k3'] at hq
            have HQ := Lib.hid (show okK ⟨K, I, N, C⟩ = false by rw [hq])
            clear hq k1 k2 k3 k4 k1' k2' k3' k4'
            go_enter Tryz.func38, Tryz.ntmps38
            go_wp2
            go_ret
            exact ⟨by rw [HQ.out]; rfl, (Below.refl _ _).alloc (Nat.le_refl _) _⟩
          · have K3 := eqz3 k3
            have k3' := of_decide_eq_true k3
            rw [if_pos k3'] at hq
            clear k1 k2 k3 k4 k1' k2' k3' k4'
            cases a1 : decide (N.size = 0)
            · obtain ⟨A3, A4⟩ := emp_of a1
              have A5 := emp_no (of_decide_eq_false a1)
              rw [a1] at hq
              have HQ := Lib.hid (show okK ⟨K, I, N, C⟩ = false by rw [hq]; rfl)
              clear hq a1
              go_enter Tryz.func38, Tryz.ntmps38
              go_wp2
              go_ret
              exact ⟨by rw [HQ.out]; rfl, (Below.refl _ _).alloc (Nat.le_refl _) _⟩
            · obtain ⟨A3, A4⟩ := emp_of a1
              have A5 := emp_yes (of_decide_eq_true a1)
              rw [a1] at hq
              cases a2 : decide (C < 512)
              · have A2 := ltzC a2
                rw [a2] at hq
                have HQ := Lib.hid (show okK ⟨K, I, N, C⟩ = false by rw [hq]; rfl)
                clear hq a1 a2
                go_enter Tryz.func38, Tryz.ntmps38
                go_wp2
                go_ret
                exact ⟨by rw [HQ.out]; rfl, (Below.refl _ _).alloc (Nat.le_refl _) _⟩
              · have A2 := ltzC a2
                rw [a2] at hq
                have HQ := Lib.hid (show okK ⟨K, I, N, C⟩ = true by rw [hq]; rfl)
                clear hq a1 a2
                go_enter Tryz.func38, Tryz.ntmps38
                go_wp2
                go_ret
                exact ⟨by rw [HQ.out]; rfl, (Below.refl _ _).alloc (Nat.le_refl _) _⟩
        · have K4 := eqz4 k4
          have k4' := of_decide_eq_true k4
          rw [if_pos (by omega)] at hq
          clear k1 k2 k4 k1' k2' k4'
          cases a1 : nb N
          · rw [a1] at hq HNm
            have HQ := Lib.hid (show okK ⟨K, I, N, C⟩ = false by rw [hq]; rfl)
            clear hq a1
            go_enter Tryz.func38, Tryz.ntmps38
            go_wp2_with (go_at_call 80; refine (HNm.out _).mono ?_; rintro e w' ⟨rfl, rfl⟩)
            go_ret
            exact ⟨by rw [HQ.out]; rfl, (Below.refl _ _).alloc (Nat.le_refl _) _⟩
          · rw [a1] at hq HNm
            cases a2 : decide (C = 0)
            · have A2 := eqz0 a2
              rw [a2] at hq
              have HQ := Lib.hid (show okK ⟨K, I, N, C⟩ = false by rw [hq]; rfl)
              clear hq a1 a2
              go_enter Tryz.func38, Tryz.ntmps38
              go_wp2_with (go_at_call 80; refine (HNm.out _).mono ?_; rintro e w' ⟨rfl, rfl⟩)
              go_ret
              exact ⟨by rw [HQ.out]; rfl, (Below.refl _ _).alloc (Nat.le_refl _) _⟩
            · have A2 := eqz0 a2
              rw [a2] at hq
              have HQ := Lib.hid (show okK ⟨K, I, N, C⟩ = true by rw [hq]; rfl)
              clear hq a1 a2
              go_enter Tryz.func38, Tryz.ntmps38
              go_wp2_with (go_at_call 80; refine (HNm.out _).mono ?_; rintro e w' ⟨rfl, rfl⟩)
              go_ret
              exact ⟨by rw [HQ.out]; rfl, (Below.refl _ _).alloc (Nat.le_refl _) _⟩
      · have K2 := eqz2 k2
        have k2' := of_decide_eq_true k2
        rw [if_pos (by omega)] at hq
        clear k1 k2 k1' k2'
        cases a1 : nb N
        · rw [a1] at hq HNm
          have HQ := Lib.hid (show okK ⟨K, I, N, C⟩ = false by rw [hq]; rfl)
          clear hq a1
          go_enter Tryz.func38, Tryz.ntmps38
          go_wp2_with (go_at_call 80; refine (HNm.out _).mono ?_; rintro e w' ⟨rfl, rfl⟩)
          go_ret
          exact ⟨by rw [HQ.out]; rfl, (Below.refl _ _).alloc (Nat.le_refl _) _⟩
        · rw [a1] at hq HNm
          cases a2 : decide (C = 0)
          · have A2 := eqz0 a2
            rw [a2] at hq
            have HQ := Lib.hid (show okK ⟨K, I, N, C⟩ = false by rw [hq]; rfl)
            clear hq a1 a2
            go_enter Tryz.func38, Tryz.ntmps38
            go_wp2_with (go_at_call 80; refine (HNm.out _).mono ?_; rintro e w' ⟨rfl, rfl⟩)
            go_ret
            exact ⟨by rw [HQ.out]; rfl, (Below.refl _ _).alloc (Nat.le_refl _) _⟩
          · have A2 := eqz0 a2
            rw [a2] at hq
            have HQ := Lib.hid (show okK ⟨K, I, N, C⟩ = true by rw [hq]; rfl)
            clear hq a1 a2
            go_enter Tryz.func38, Tryz.ntmps38
            go_wp2_with (go_at_call 80; refine (HNm.out _).mono ?_; rintro e w' ⟨rfl, rfl⟩)
            go_ret
            exact ⟨by rw [HQ.out]; rfl, (Below.refl _ _).alloc (Nat.le_refl _) _⟩
    · have K1 := eqz1 k1
      have k1' := of_decide_eq_true k1
      rw [if_pos k1'] at hq
      clear k1 k1'
      cases a1 : decide (N.size = 0)
      · obtain ⟨A3, A4⟩ := emp_of a1
        have A5 := emp_no (of_decide_eq_false a1)
        rw [a1] at hq
        have HQ := Lib.hid (show okK ⟨K, I, N, C⟩ = false by rw [hq]; rfl)
        clear hq a1
        go_enter Tryz.func38, Tryz.ntmps38
        go_wp2
        go_ret
        exact ⟨by rw [HQ.out]; rfl, (Below.refl _ _).alloc (Nat.le_refl _) _⟩
      · obtain ⟨A3, A4⟩ := emp_of a1
        have A5 := emp_yes (of_decide_eq_true a1)
        rw [a1] at hq
        cases a2 : decide (C = 0)
        · have A2 := eqz0 a2
          rw [a2] at hq
          have HQ := Lib.hid (show okK ⟨K, I, N, C⟩ = false by rw [hq]; rfl)
          clear hq a1 a2
          go_enter Tryz.func38, Tryz.ntmps38
          go_wp2
          go_ret
          exact ⟨by rw [HQ.out]; rfl, (Below.refl _ _).alloc (Nat.le_refl _) _⟩
        · have A2 := eqz0 a2
          rw [a2] at hq
          have HQ := Lib.hid (show okK ⟨K, I, N, C⟩ = true by rw [hq]; rfl)
          clear hq a1 a2
          go_enter Tryz.func38, Tryz.ntmps38
          go_wp2
          go_ret
          exact ⟨by rw [HQ.out]; rfl, (Below.refl _ _).alloc (Nat.le_refl _) _⟩
  · have I0 := eqz0 i0
    have i1 : decide (1 ≤ I) = false := decide_eq_false (by have := of_decide_eq_true i0; omega)
    rw [i1, Bool.false_and] at hq
    clear i1 i0
    have HQ := Lib.hid (show okK ⟨K, I, N, C⟩ = false by rw [hq])
    clear hq
    go_enter Tryz.func38, Tryz.ntmps38
    go_wp2
    go_ret
    exact ⟨by rw [HQ.out]; rfl, (Below.refl _ _).alloc (Nat.le_refl _) _⟩
theorem pfx_size (K I : Nat) : (pfx K I).size ≤ 5 := by
  unfold pfx
  split
  · exact Nat.zero_le _
  · rw [ByteArray.size_append, bs_size, bs_size, be_length]
    have := @ltB_size K
    unfold ltB at this
    rw [bs_size] at this
    omega
set_option maxRecDepth 100000 in
set_option maxHeartbeats 2000000 in
theorem writtenKey_in (k : Ky) (hl : k.lim) (ht : k.N.size ≤ 65535) (w : World) :
    Calls Tryz.prog 39 #[vK k] w fun e w' => e = .returned (.string (wrK k)) ∧ Below w.heap.size w w' := by
  obtain ⟨K, I, N, C⟩ := k
  obtain ⟨l1, l2, l3⟩ := hl
  dsimp only at l1 l2 l3 ht
  unfold vK
  dsimp only
  have C0 := box_cell w #[.int .u8 K, .int .u32 I, .string N, .int .u32 C] 37 0 rfl
  have C1 := box_cell w #[.int .u8 K, .int .u32 I, .string N, .int .u32 C] 37 1 rfl
  have C2 := box_cell w #[.int .u8 K, .int .u32 I, .string N, .int .u32 C] 37 2 rfl
  have C3 := box_cell w #[.int .u8 K, .int .u32 I, .string N, .int .u32 C] 37 3 rfl
  have B0 := Lib.hid ((Below.refl w.heap.size w).alloc (Nat.le_refl _) (.cells #[.int .u8 K, .int .u32 I, .string N, .int .u32 C] 37))
  have hsz : w.heap.size < (w.alloc (.cells #[.int .u8 K, .int .u32 I, .string N, .int .u32 C] 37)).heap.size := by simp
  have HP := Lib.hid (fun w => prefix_in K I l1 l2 w)
  have HN := Lib.hid (fun w => number_in C 4 w (by omega) (by omega) (by omega) (by omega))
  have HU := Lib.hid (u64_id (n := C) (by omega))
  have pz := pfx_size K I
  have cz : (bs (be 4 C)).size = 4 := by rw [bs_size, be_length]
  go_enter Tryz.func39, Tryz.ntmps39
  go_wp2_with fail
  obtain ⟨b0, hb0⟩ : ∃ b, w.heap.size = b := ⟨_, rfl⟩
  have HB0 := Lib.hid hb0
  rw [hb0] at C0 C1 C2 C3 B0 hsz ⊢
  clear hb0
  obtain ⟨W, hW⟩ : ∃ W, w.alloc (.cells #[.int .u8 K, .int .u32 I, .string N, .int .u32 C] 37) = W := ⟨_, rfl⟩
  rw [hW] at C0 C1 C2 C3 B0 hsz
  change Code.wp _ _ _ _ (w.alloc (.cells #[.int .u8 K, .int .u32 I, .string N, .int .u32 C] 37))
  rw [hW]
  clear hW
  obtain ⟨P, hP⟩ : ∃ P, pfx K I = P := ⟨_, rfl⟩
  rw [hP] at HP pz
  have HPP := Lib.hid hP
  clear hP
  have hbl := hsz
  refine wp_region_G (fun w' => Below W.heap.size W w') (by kernel_rfl) (by kernel_rfl) (Below.refl _ _).drew ?_
  refine wpG_val (.pointer (some ⟨b0, 0, none⟩)) rfl (by rfl) (fun w' hSw => by go_simp) ?_
  simp only [List.setIfInBounds_toArray, List.set_cons_zero, List.set_cons_succ]
  refine wpG_val (.int .u8 K) rfl (by rfl) (fun w' hSw => by have c := (Below.cell hSw (p := ⟨b0, 0, none⟩) hbl).trans C0; go_simp) ?_
  simp only [List.setIfInBounds_toArray, List.set_cons_zero, List.set_cons_succ]
  refine wpG_val (.pointer (some ⟨b0, 1, none⟩)) rfl (by rfl) (fun w' hSw => by go_simp) ?_
  simp only [List.setIfInBounds_toArray, List.set_cons_zero, List.set_cons_succ]
  refine wpG_val (.int .u32 I) rfl (by rfl) (fun w' hSw => by have c := (Below.cell hSw (p := ⟨b0, 1, none⟩) hbl).trans C1; go_simp) ?_
  simp only [List.setIfInBounds_toArray, List.set_cons_zero, List.set_cons_succ]
  refine wpG_call (.string P) 70 #[.int .u8 K, .int .u32 I] rfl (by rfl) (fun w' => by go_simp) (fun w' hSw => (HP.out w').mono fun e w2 h => ⟨h.1, hSw.trans (h.2.mono hSw.size)⟩) ?_
  simp only [List.setIfInBounds_toArray, List.set_cons_zero, List.set_cons_succ]
  refine wpG_val (.pointer (some ⟨b0, 2, none⟩)) rfl (by rfl) (fun w' hSw => by go_simp) ?_
  simp only [List.setIfInBounds_toArray, List.set_cons_zero, List.set_cons_succ]
  refine wpG_val (.string N) rfl (by rfl) (fun w' hSw => by have c := (Below.cell hSw (p := ⟨b0, 2, none⟩) hbl).trans C2; go_simp) ?_
  simp only [List.setIfInBounds_toArray, List.set_cons_zero, List.set_cons_succ]
  refine wpG_val (.string (P ++ N)) rfl (by rfl) (fun w' hSw => by go_simp <;> omega) ?_
  simp only [List.setIfInBounds_toArray, List.set_cons_zero, List.set_cons_succ]
  refine wpG_val (.string (P ++ N)) rfl (by rfl) (fun w' hSw => by go_simp) ?_
  simp only [List.setIfInBounds_toArray, List.set_cons_zero, List.set_cons_succ]
  refine wpG_nil ?_
  intro w1 hSw
  have D0 := (Below.cell hSw (p := ⟨b0, 0, none⟩) hbl).trans C0
  have D3 := (Below.cell hSw (p := ⟨b0, 3, none⟩) hbl).trans C3
  have B1 := Lib.hid (B0.out.trans (hSw.mono (Nat.le_of_lt hbl)))
  have hbl1 : b0 < w1.heap.size := Nat.lt_of_lt_of_le hbl hSw.size
  clear C0 C1 C2 C3 hSw B0 HP
  cases k3 : decide (K = 3)
  · have K3 := eqz3 k3
    have HW := Lib.hid (show wrK ⟨K, I, N, C⟩ = P ++ N by unfold wrK; dsimp only; rw [if_neg (of_decide_eq_false k3), HPP.out])
    clear k3
    go_wp2
    go_ret
    exact ⟨by rw [HW.out]; rfl, by rw [HB0.out]; exact B1.out⟩
  · have K3 := eqz3 k3
    have HW := Lib.hid (show wrK ⟨K, I, N, C⟩ = P ++ N ++ bs (be 4 C) by unfold wrK; dsimp only; rw [if_pos (of_decide_eq_true k3), HPP.out])
    clear k3
    have u := HU.out
    go_wp2_with (go_at_call 79; refine (HN.out _).mono ?_; rintro e w' ⟨rfl, hb⟩)
    go_ret
    exact ⟨by rw [HW.out]; rfl, by rw [HB0.out]; exact B1.out.trans (hb.mono (Nat.le_of_lt hbl1))⟩
/-- a key's bytes, or none; which error -/
def enK (k : Ky) : ByteArray := if okK k then wrK k else ByteArray.empty
def chK (k : Ky) : Int := if okK k then 0 else 4
theorem chK_yes {k : Ky} (h : okK k = true) : chK k = 0 ∧ enK k = wrK k := by unfold chK enK; rw [h]; exact ⟨rfl, rfl⟩
theorem chK_no {k : Ky} (h : okK k = false) : chK k = 4 ∧ enK k = ByteArray.empty := by unfold chK enK; rw [h]; exact ⟨rfl, rfl⟩
theorem okK_size {k : Ky} (h : okK k = true) : k.N.size ≤ 24 := by
  rcases (okK_iff.1 h).2 with h | h | h
  · omega
  · exact (nb_size h.2.1).2
  · omega
set_option maxRecDepth 100000 in
set_option maxHeartbeats 1000000 in
theorem key_in (k : Ky) (hl : k.lim) (w : World) :
    Calls Tryz.prog 14 #[vK k] w fun e w' => e = .returned (.tuple #[.string (enK k), .int .i64 (chK k)]) ∧ Below w.heap.size w w' := by
  obtain ⟨K, I, N, C⟩ := k
  have HC := Lib.hid (rightKey_in ⟨K, I, N, C⟩ hl)
  have HW := Lib.hid (fun ht w => writtenKey_in ⟨K, I, N, C⟩ hl ht w)
  have C0 := box_cell w #[.int .u8 K, .int .u32 I, .string N, .int .u32 C] 37 0 rfl
  have C1 := box_cell w #[.int .u8 K, .int .u32 I, .string N, .int .u32 C] 37 1 rfl
  have C2 := box_cell w #[.int .u8 K, .int .u32 I, .string N, .int .u32 C] 37 2 rfl
  have C3 := box_cell w #[.int .u8 K, .int .u32 I, .string N, .int .u32 C] 37 3 rfl
  have B0 := Lib.hid ((Below.refl w.heap.size w).alloc (Nat.le_refl _) (.cells #[.int .u8 K, .int .u32 I, .string N, .int .u32 C] 37))
  have hsz : w.heap.size < (w.alloc (.cells #[.int .u8 K, .int .u32 I, .string N, .int .u32 C] 37)).heap.size := by simp
  unfold vK
  dsimp only
  cases hq : okK ⟨K, I, N, C⟩
  · have HQ := Lib.hid (chK_no hq)
    rw [hq] at HC
    clear hq HW
    go_enter Tryz.func14, Tryz.ntmps14
    go_wp2_with fail
    change Calls _ _ _ (w.alloc (.cells #[.int .u8 K, .int .u32 I, .string N, .int .u32 C] 37)) _
    generalize w.alloc (.cells #[.int .u8 K, .int .u32 I, .string N, .int .u32 C] 37) = W at *
    refine (HC.out W).mono ?_
    rintro e w1 ⟨rfl, hb⟩
    have B1 := Lib.hid (B0.out.trans (hb.mono B0.out.size))
    clear C0 C1 C2 C3 hb B0 HC
    go_wp2
    go_ret2
    exact ⟨by rw [HQ.out.1, HQ.out.2]; rfl, B1.out⟩
  · have HQ := Lib.hid (chK_yes hq)
    have HW2 := Lib.hid (HW.out (by have := okK_size hq; dsimp only at this ⊢; omega))
    rw [hq] at HC
    clear hq HW
    go_enter Tryz.func14, Tryz.ntmps14
    go_wp2_with fail
    change Calls _ _ _ (w.alloc (.cells #[.int .u8 K, .int .u32 I, .string N, .int .u32 C] 37)) _
    generalize w.alloc (.cells #[.int .u8 K, .int .u32 I, .string N, .int .u32 C] 37) = W at *
    refine (HC.out W).mono ?_
    rintro e w1 ⟨rfl, hb⟩
    have D0 := (Below.cell hb (p := ⟨w.heap.size, 0, none⟩) hsz).trans C0
    have D1 := (Below.cell hb (p := ⟨w.heap.size, 1, none⟩) hsz).trans C1
    have D2 := (Below.cell hb (p := ⟨w.heap.size, 2, none⟩) hsz).trans C2
    have D3 := (Below.cell hb (p := ⟨w.heap.size, 3, none⟩) hsz).trans C3
    have B1 := Lib.hid (B0.out.trans (hb.mono B0.out.size))
    clear C0 C1 C2 C3 hb B0 HC
    go_wp2_with (go_at_call 39; refine (HW2.out _).mono ?_; rintro e w' ⟨rfl, hb⟩)
    go_ret2
    exact ⟨by rw [HQ.out.1, HQ.out.2]; rfl, B1.out.trans (hb.mono B1.out.size)⟩
end Go.Proofs.YtjkmfonngbendaaGreatDoor.Ino
/- Contracts of package inode: bytes read as a key. -/
namespace Go.Proofs.YtjkmfonngbendaaGreatDoor.Ino
set_option linter.unusedVariables false
set_option linter.unusedSimpArgs false
open Go.ChangeShapes Go.WideShapes Go.ChangeAt Go.RowKit
open Rg
open Pk (be num be_length num_be num_lt bs bs_size nB nE tN tR tE xB_size)
open Ph (has tl tl_len nb contains_any name_any)
theorem row4 (K I C : Int) (N : ByteArray) : (#[.int .u8 K, .int .u32 I, .string N, .int .u32 C] : Array Value).all (·.oneCell') = true := by simp [Value.oneCell']
theorem set_far {w : World} {g : Nat} {o : Obj} (h : w.heap[g]? = some o) {a : Addr} (ha : g ≠ a.block) (v : Value) : (w.setCell a v).heap[g]? = some o := (Below.heap_setCell w a v g ha).trans h
set_option maxRecDepth 100000 in
set_option maxHeartbeats 4000000 in
theorem takenKey_in (s : ByteArray) (hs : s.size ≤ maxLen) (w : World) :
    Calls Tryz.prog 120 #[.string s] w fun e w' => e = .returned (vK (tkK s)) ∧ Below w.heap.size w w' := by
  have hlim := tkK_lim s
  obtain ⟨K, hK⟩ : ∃ K, kd s = K := ⟨_, rfl⟩
  obtain ⟨r0, hr0⟩ : ∃ r, rs s = r := ⟨_, rfl⟩
  obtain ⟨I, hI⟩ : ∃ K, (tN r0 ((4 : Nat) : Int)).toNat = K := ⟨_, rfl⟩
  obtain ⟨r1, hr1⟩ : ∃ r, tR r0 ((4 : Nat) : Int) = r := ⟨_, rfl⟩
  obtain ⟨C, hC⟩ : ∃ K, (tN r1 ((4 : Nat) : Int)).toNat = K := ⟨_, rfl⟩
  obtain ⟨r2, hr2⟩ : ∃ r, tR r1 ((4 : Nat) : Int) = r := ⟨_, rfl⟩
  have hn : tkK s = ⟨K, I, if K = 2 ∨ K = 4 then r1 else ByteArray.empty, if K = 3 then C else 0⟩ := by subst hK hr0 hI hr1 hC hr2; rfl
  have z0 : r0.size ≤ maxLen := by
    rw [← hr0]
    unfold rs
    split
    · exact hs
    · rw [ByteArray.size_extract]; omega
  have z1 : r1.size ≤ maxLen := by rw [← hr1]; exact Nat.le_trans (tR_le _ _) z0
  have hC4 : C < 4294967296 := by have := tN4 r1; rw [← hC]; have h2 : (tN r1 ((4 : Nat) : Int)) = tN r1 4 := rfl; omega
  have CT := Lib.hid (fun g b w h => take_in s g b w h)
  rw [hK, hr0] at CT
  have C1 := Lib.hid (takeNat r0 4 I r1 z0 (by omega) hI hr1)
  have C2 := Lib.hid (takeNat r1 4 C r2 z1 (by omega) hC hr2)
  rw [hn] at hlim ⊢
  obtain ⟨l1, l2, l3⟩ := hlim
  dsimp only at l1 l2 l3
  have U1 := Lib.hid (u32_id l2)
  have U2 := Lib.hid (u32_id hC4)
  clear hn hK hr0 hI hr1 hC hr2 z0 z1 l1 l2 l3 hs hC4
  have R0 := Lib.hid (heap_alloc_new w (.cells #[.int .u8 0, .int .u32 0, .string ⟨#[]⟩, .int .u32 0] 37))
  have B0 := Lib.hid ((Below.refl w.heap.size w).alloc (Nat.le_refl _) (.cells #[.int .u8 0, .int .u32 0, .string ⟨#[]⟩, .int .u32 0] 37))
  have hsz : (w.alloc (.cells #[.int .u8 0, .int .u32 0, .string ⟨#[]⟩, .int .u32 0] 37)).heap.size = w.heap.size + 1 := by simp
  have HZ := Lib.hid hsz
  clear hsz
  obtain ⟨X, hX⟩ : ∃ X, (if K = 2 ∨ K = 4 then r1 else ByteArray.empty) = X := ⟨_, rfl⟩
  obtain ⟨Y, hY⟩ : ∃ Y, (if K = 3 then C else 0) = Y := ⟨_, rfl⟩
  have HX := Lib.hid hX
  have HY := Lib.hid hY
  rw [hX, hY]
  clear hX hY
  unfold vK
  dsimp only
  go_enter Tryz.func120, Tryz.ntmps120
  go_wp2_with fail
  change Calls _ _ _ ((w.alloc (.cells #[.int .u8 0, .int .u32 0, .string ⟨#[]⟩, .int .u32 0] 37)).alloc (.cells #[.int .u32 0, .int .i32 0, .int .u32 0, .string ⟨#[]⟩, .string ⟨#[]⟩, .string ⟨#[]⟩, .string ⟨#[]⟩, .string ⟨#[]⟩] 195)) _
  generalize w.alloc (.cells #[.int .u8 0, .int .u32 0, .string ⟨#[]⟩, .int .u32 0] 37) = W at *
  have HL := Lib.hid (new_letters W)
  rw [HZ.out] at HL
  have B1 := Lib.hid ((Below.refl W.heap.size W).alloc (Nat.le_refl _) (.cells #[.int .u32 0, .int .i32 0, .int .u32 0, .string ⟨#[]⟩, .string ⟨#[]⟩, .string ⟨#[]⟩, .string ⟨#[]⟩, .string ⟨#[]⟩] 195))
  refine (CT.out (w.heap.size + 1) false _ HL.out).mono ?_
  rintro e w1 ⟨rfl, hb⟩
  have hb' : Below W.heap.size W w1 := B1.out.trans (by rw [HZ.out]; exact hb)
  have R1 := Lib.hid (row_bel R0.out hb' (by rw [HZ.out]; omega))
  have B2 := Lib.hid (B0.out.trans (hb'.mono (by rw [HZ.out]; omega)))
  have hsz : w.heap.size < w1.heap.size := by have h1 := hb'.size; have h2 := HZ.out; omega
  clear hb hb' B1 B0 R0 HL HZ CT
  go_wp2_with fail
  refine (C1.out _).mono ?_
  rintro e w2 ⟨rfl, hb⟩
  have R2 := Lib.hid (row_bel R1.out hb hsz)
  have B3 := Lib.hid (B2.out.trans (hb.mono B2.out.size))
  replace hsz := Nat.lt_of_lt_of_le hsz hb.size
  clear hb R1 B2 C1
  have N1 := Lib.hid (new_row2 (old := #[.int .u8 0, .int .u32 0, .string ⟨#[]⟩, .int .u32 0]) (cs := #[.int .u8 K, .int .u32 I, .string ⟨#[]⟩, .int .u32 0]) (t := 37) R2.out)
  have u1 := U1.out
  have fin : Hid (∀ (V : World), V.heap[w.heap.size]? = some (.cells #[.int .u8 0, .int .u32 0, .string ⟨#[]⟩, .int .u32 0] 37 (0, 0)) → ∀ cs, (V.setRow w.heap.size cs).heap[w.heap.size]? = some (.cells cs 37 (0, 0))) := Lib.hid (fun V h cs => setRow_heap' h)
  cases k3 : decide (K = 3)
  · have K3 := eqz3 k3
    have k3' := of_decide_eq_false k3
    cases k24 : decide (K = 2 ∨ K = 4)
    · have k24' := of_decide_eq_false k24
      have K2 := eqz2 (a := K) (q := false) (by rw [decide_eq_false (by omega)])
      have K4 := eqz4 (a := K) (q := false) (by rw [decide_eq_false (by omega)])
      have HX1 := Lib.hid (show X = ByteArray.empty by rw [← HX.out, if_neg k24'])
      have HY1 := Lib.hid (show Y = 0 by rw [← HY.out, if_neg k3'])
      clear k3 k3' k24 k24'
      go_wp2_with (first
        | (refine wpList_store_row rfl 37 (.tmp 7) (.tmp 23) rfl w2.heap.size #[.int .u8 K, .int .u32 I, .string ⟨#[]⟩, .int .u32 0] rfl rfl 37 #[.int .u8 0, .int .u32 0, .string ⟨#[]⟩, .int .u32 0] (heap_alloc_new w2 _) (by kernel_rfl) rfl (row4 _ _ _ _) ?_; change wpList _ _ _ _ _ ((w2.alloc (.cells #[.int .u8 0, .int .u32 0, .string ⟨#[]⟩, .int .u32 0] 37)).setRow w2.heap.size #[.int .u8 K, .int .u32 I, .string ⟨#[]⟩, .int .u32 0]); generalize ((w2.alloc (.cells #[.int .u8 0, .int .u32 0, .string ⟨#[]⟩, .int .u32 0] 37)).setRow w2.heap.size #[.int .u8 K, .int .u32 I, .string ⟨#[]⟩, .int .u32 0]) = W3 at *; have c0 : W3.cell? ⟨w2.heap.size, 0, none⟩ = some (.int .u8 K) := (cell_of_row W3 w2.heap.size 0 #[.int .u8 K, .int .u32 I, .string ⟨#[]⟩, .int .u32 0] 37 (0, 0) N1.out.2.1).trans rfl; have f0 : W3.frozen? ⟨w2.heap.size, 0, none⟩ = false := frozen_of_row W3 w2.heap.size 0 #[.int .u8 K, .int .u32 I, .string ⟨#[]⟩, .int .u32 0] 37 N1.out.2.1; have c1 : W3.cell? ⟨w2.heap.size, 1, none⟩ = some (.int .u32 I) := (cell_of_row W3 w2.heap.size 1 #[.int .u8 K, .int .u32 I, .string ⟨#[]⟩, .int .u32 0] 37 (0, 0) N1.out.2.1).trans rfl; have f1 : W3.frozen? ⟨w2.heap.size, 1, none⟩ = false := frozen_of_row W3 w2.heap.size 1 #[.int .u8 K, .int .u32 I, .string ⟨#[]⟩, .int .u32 0] 37 N1.out.2.1; have c2 : W3.cell? ⟨w2.heap.size, 2, none⟩ = some (.string ⟨#[]⟩) := (cell_of_row W3 w2.heap.size 2 #[.int .u8 K, .int .u32 I, .string ⟨#[]⟩, .int .u32 0] 37 (0, 0) N1.out.2.1).trans rfl; have f2 : W3.frozen? ⟨w2.heap.size, 2, none⟩ = false := frozen_of_row W3 w2.heap.size 2 #[.int .u8 K, .int .u32 I, .string ⟨#[]⟩, .int .u32 0] 37 N1.out.2.1; have c3 : W3.cell? ⟨w2.heap.size, 3, none⟩ = some (.int .u32 0) := (cell_of_row W3 w2.heap.size 3 #[.int .u8 K, .int .u32 I, .string ⟨#[]⟩, .int .u32 0] 37 (0, 0) N1.out.2.1).trans rfl; have f3 : W3.frozen? ⟨w2.heap.size, 3, none⟩ = false := frozen_of_row W3 w2.heap.size 3 #[.int .u8 K, .int .u32 I, .string ⟨#[]⟩, .int .u32 0] 37 N1.out.2.1)
        | (refine wpList_load_row rfl 37 (.tmp 7) rfl w2.heap.size rfl 37 #[.int .u8 K, .int .u32 I, .string ⟨#[]⟩, .int .u32 0] (0, 0) _ N1.out.2.1 Tryz.underlying37 rfl (by kernel_rfl) ?_)
        | (refine wpList_store_row rfl 37 (.tmp 2) (.tmp 40) rfl w.heap.size #[.int .u8 K, .int .u32 I, .string ⟨#[]⟩, .int .u32 0] rfl rfl 37 #[.int .u8 0, .int .u32 0, .string ⟨#[]⟩, .int .u32 0] N1.out.1 (by kernel_rfl) rfl (row4 _ _ _ _) ?_))
      refine bodyPost_ret (v := .agg #[.int .u8 K, .int .u32 I, .string ⟨#[]⟩, .int .u32 0]) (results_cell_row rfl _ _ w.heap.size 37 #[.int .u8 K, .int .u32 I, .string ⟨#[]⟩, .int .u32 0] (0, 0) _ rfl (fin.out _ N1.out.1 _) Tryz.underlying37 rfl (by kernel_rfl)) rfl ?_
      exact ⟨by rw [HX1.out, HY1.out]; rfl, below_setRow (B3.out.trans (N1.out.2.2.1.mono B3.out.size)) (Nat.le_refl _) _⟩
    · have k24' := of_decide_eq_true k24
      have HX1 := Lib.hid (show X = r1 by rw [← HX.out, if_pos k24'])
      have HY1 := Lib.hid (show Y = 0 by rw [← HY.out, if_neg k3'])
      have KQ : (((K : Int) == 2) = true) ∨ (((K : Int) == 2) = false ∧ ((K : Int) == 4) = true) := by
        rcases k24' with h | h
        · exact .inl (eqz2 (decide_eq_true h))
        · exact .inr ⟨eqz2 (decide_eq_false (by omega)), eqz4 (decide_eq_true h)⟩
      clear k3 k3' k24 k24'
      have hne : w.heap.size ≠ w2.heap.size := Nat.ne_of_lt hsz
      rcases KQ with K2 | ⟨K2, K4⟩
      all_goals
        go_wp2_with (first
          | (refine wpList_store_row rfl 37 (.tmp 7) (.tmp 23) rfl w2.heap.size #[.int .u8 K, .int .u32 I, .string ⟨#[]⟩, .int .u32 0] rfl rfl 37 #[.int .u8 0, .int .u32 0, .string ⟨#[]⟩, .int .u32 0] (heap_alloc_new w2 _) (by kernel_rfl) rfl (row4 _ _ _ _) ?_; change wpList _ _ _ _ _ ((w2.alloc (.cells #[.int .u8 0, .int .u32 0, .string ⟨#[]⟩, .int .u32 0] 37)).setRow w2.heap.size #[.int .u8 K, .int .u32 I, .string ⟨#[]⟩, .int .u32 0]); generalize ((w2.alloc (.cells #[.int .u8 0, .int .u32 0, .string ⟨#[]⟩, .int .u32 0] 37)).setRow w2.heap.size #[.int .u8 K, .int .u32 I, .string ⟨#[]⟩, .int .u32 0]) = W3 at *; have c0 : W3.cell? ⟨w2.heap.size, 0, none⟩ = some (.int .u8 K) := (cell_of_row W3 w2.heap.size 0 #[.int .u8 K, .int .u32 I, .string ⟨#[]⟩, .int .u32 0] 37 (0, 0) N1.out.2.1).trans rfl; have f0 : W3.frozen? ⟨w2.heap.size, 0, none⟩ = false := frozen_of_row W3 w2.heap.size 0 #[.int .u8 K, .int .u32 I, .string ⟨#[]⟩, .int .u32 0] 37 N1.out.2.1; have c1 : W3.cell? ⟨w2.heap.size, 1, none⟩ = some (.int .u32 I) := (cell_of_row W3 w2.heap.size 1 #[.int .u8 K, .int .u32 I, .string ⟨#[]⟩, .int .u32 0] 37 (0, 0) N1.out.2.1).trans rfl; have f1 : W3.frozen? ⟨w2.heap.size, 1, none⟩ = false := frozen_of_row W3 w2.heap.size 1 #[.int .u8 K, .int .u32 I, .string ⟨#[]⟩, .int .u32 0] 37 N1.out.2.1; have c2 : W3.cell? ⟨w2.heap.size, 2, none⟩ = some (.string ⟨#[]⟩) := (cell_of_row W3 w2.heap.size 2 #[.int .u8 K, .int .u32 I, .string ⟨#[]⟩, .int .u32 0] 37 (0, 0) N1.out.2.1).trans rfl; have f2 : W3.frozen? ⟨w2.heap.size, 2, none⟩ = false := frozen_of_row W3 w2.heap.size 2 #[.int .u8 K, .int .u32 I, .string ⟨#[]⟩, .int .u32 0] 37 N1.out.2.1; have c3 : W3.cell? ⟨w2.heap.size, 3, none⟩ = some (.int .u32 0) := (cell_of_row W3 w2.heap.size 3 #[.int .u8 K, .int .u32 I, .string ⟨#[]⟩, .int .u32 0] 37 (0, 0) N1.out.2.1).trans rfl; have f3 : W3.frozen? ⟨w2.heap.size, 3, none⟩ = false := frozen_of_row W3 w2.heap.size 3 #[.int .u8 K, .int .u32 I, .string ⟨#[]⟩, .int .u32 0] 37 N1.out.2.1)
          | (refine wpList_store_row rfl 37 (.tmp 2) (.tmp 40) rfl w.heap.size #[.int .u8 K, .int .u32 I, .string r1, .int .u32 0] rfl rfl 37 #[.int .u8 0, .int .u32 0, .string ⟨#[]⟩, .int .u32 0] (set_far N1.out.1 (a := ⟨w2.heap.size, 2, none⟩) hne _) (by kernel_rfl) rfl (row4 _ _ _ _) ?_))
        refine bodyPost_ret (v := .agg #[.int .u8 K, .int .u32 I, .string r1, .int .u32 0]) (results_cell_row rfl _ _ w.heap.size 37 #[.int .u8 K, .int .u32 I, .string r1, .int .u32 0] (0, 0) _ rfl (fin.out _ (set_far N1.out.1 (a := ⟨w2.heap.size, 2, none⟩) hne _) _) Tryz.underlying37 rfl (by kernel_rfl)) rfl ?_
        exact ⟨by rw [HX1.out, HY1.out]; rfl, below_setRow ((B3.out.trans (N1.out.2.2.1.mono B3.out.size)).setCell (Nat.le_of_lt hsz) _) (Nat.le_refl _) _⟩
  · have K3 := eqz3 k3
    have k3' := of_decide_eq_true k3
    have K2 := eqz2 (a := K) (q := false) (by rw [decide_eq_false (by omega)])
    have K4 := eqz4 (a := K) (q := false) (by rw [decide_eq_false (by omega)])
    have HX1 := Lib.hid (show X = ByteArray.empty by rw [← HX.out, if_neg (by omega)])
    have HY1 := Lib.hid (show Y = C by rw [← HY.out, if_pos k3'])
    have hne : w.heap.size ≠ w2.heap.size := Nat.ne_of_lt hsz
    clear k3 k3'
    go_wp2_with (refine wpList_store_row rfl 37 (.tmp 7) (.tmp 23) rfl w2.heap.size #[.int .u8 K, .int .u32 I, .string ⟨#[]⟩, .int .u32 0] rfl rfl 37 #[.int .u8 0, .int .u32 0, .string ⟨#[]⟩, .int .u32 0] (heap_alloc_new w2 _) (by kernel_rfl) rfl (row4 _ _ _ _) ?_; change wpList _ _ _ _ _ ((w2.alloc (.cells #[.int .u8 0, .int .u32 0, .string ⟨#[]⟩, .int .u32 0] 37)).setRow w2.heap.size #[.int .u8 K, .int .u32 I, .string ⟨#[]⟩, .int .u32 0]); generalize ((w2.alloc (.cells #[.int .u8 0, .int .u32 0, .string ⟨#[]⟩, .int .u32 0] 37)).setRow w2.heap.size #[.int .u8 K, .int .u32 I, .string ⟨#[]⟩, .int .u32 0]) = W3 at *; have c0 : W3.cell? ⟨w2.heap.size, 0, none⟩ = some (.int .u8 K) := (cell_of_row W3 w2.heap.size 0 #[.int .u8 K, .int .u32 I, .string ⟨#[]⟩, .int .u32 0] 37 (0, 0) N1.out.2.1).trans rfl; have f0 : W3.frozen? ⟨w2.heap.size, 0, none⟩ = false := frozen_of_row W3 w2.heap.size 0 #[.int .u8 K, .int .u32 I, .string ⟨#[]⟩, .int .u32 0] 37 N1.out.2.1; have c1 : W3.cell? ⟨w2.heap.size, 1, none⟩ = some (.int .u32 I) := (cell_of_row W3 w2.heap.size 1 #[.int .u8 K, .int .u32 I, .string ⟨#[]⟩, .int .u32 0] 37 (0, 0) N1.out.2.1).trans rfl; have f1 : W3.frozen? ⟨w2.heap.size, 1, none⟩ = false := frozen_of_row W3 w2.heap.size 1 #[.int .u8 K, .int .u32 I, .string ⟨#[]⟩, .int .u32 0] 37 N1.out.2.1; have c2 : W3.cell? ⟨w2.heap.size, 2, none⟩ = some (.string ⟨#[]⟩) := (cell_of_row W3 w2.heap.size 2 #[.int .u8 K, .int .u32 I, .string ⟨#[]⟩, .int .u32 0] 37 (0, 0) N1.out.2.1).trans rfl; have f2 : W3.frozen? ⟨w2.heap.size, 2, none⟩ = false := frozen_of_row W3 w2.heap.size 2 #[.int .u8 K, .int .u32 I, .string ⟨#[]⟩, .int .u32 0] 37 N1.out.2.1; have c3 : W3.cell? ⟨w2.heap.size, 3, none⟩ = some (.int .u32 0) := (cell_of_row W3 w2.heap.size 3 #[.int .u8 K, .int .u32 I, .string ⟨#[]⟩, .int .u32 0] 37 (0, 0) N1.out.2.1).trans rfl; have f3 : W3.frozen? ⟨w2.heap.size, 3, none⟩ = false := frozen_of_row W3 w2.heap.size 3 #[.int .u8 K, .int .u32 I, .string ⟨#[]⟩, .int .u32 0] 37 N1.out.2.1)
    refine (C2.out _).mono ?_
    rintro e w4 ⟨rfl, hb⟩
    have R4 := Lib.hid (row_bel N1.out.1 hb (by have h1 := N1.out.2.2.2; omega))
    have Rn := Lib.hid (row_bel N1.out.2.1 hb N1.out.2.2.2)
    have B4 := Lib.hid (B3.out.trans ((N1.out.2.2.1.trans (hb.mono N1.out.2.2.1.size)).mono B3.out.size))
    have d0 : w4.cell? ⟨w2.heap.size, 0, none⟩ = some (.int .u8 K) := (cell_of_row w4 w2.heap.size 0 #[.int .u8 K, .int .u32 I, .string ⟨#[]⟩, .int .u32 0] 37 (0, 0) Rn.out).trans rfl
    have g0 : w4.frozen? ⟨w2.heap.size, 0, none⟩ = false := frozen_of_row w4 w2.heap.size 0 #[.int .u8 K, .int .u32 I, .string ⟨#[]⟩, .int .u32 0] 37 Rn.out
    have d1 : w4.cell? ⟨w2.heap.size, 1, none⟩ = some (.int .u32 I) := (cell_of_row w4 w2.heap.size 1 #[.int .u8 K, .int .u32 I, .string ⟨#[]⟩, .int .u32 0] 37 (0, 0) Rn.out).trans rfl
    have g1 : w4.frozen? ⟨w2.heap.size, 1, none⟩ = false := frozen_of_row w4 w2.heap.size 1 #[.int .u8 K, .int .u32 I, .string ⟨#[]⟩, .int .u32 0] 37 Rn.out
    have d2 : w4.cell? ⟨w2.heap.size, 2, none⟩ = some (.string ⟨#[]⟩) := (cell_of_row w4 w2.heap.size 2 #[.int .u8 K, .int .u32 I, .string ⟨#[]⟩, .int .u32 0] 37 (0, 0) Rn.out).trans rfl
    have g2 : w4.frozen? ⟨w2.heap.size, 2, none⟩ = false := frozen_of_row w4 w2.heap.size 2 #[.int .u8 K, .int .u32 I, .string ⟨#[]⟩, .int .u32 0] 37 Rn.out
    have d3 : w4.cell? ⟨w2.heap.size, 3, none⟩ = some (.int .u32 0) := (cell_of_row w4 w2.heap.size 3 #[.int .u8 K, .int .u32 I, .string ⟨#[]⟩, .int .u32 0] 37 (0, 0) Rn.out).trans rfl
    have g3 : w4.frozen? ⟨w2.heap.size, 3, none⟩ = false := frozen_of_row w4 w2.heap.size 3 #[.int .u8 K, .int .u32 I, .string ⟨#[]⟩, .int .u32 0] 37 Rn.out
    clear hb c0 c1 c2 c3 f0 f1 f2 f3 N1 B3 C2
    have u2 := U2.out
    go_wp2_with (refine wpList_store_row rfl 37 (.tmp 2) (.tmp 40) rfl w.heap.size #[.int .u8 K, .int .u32 I, .string ⟨#[]⟩, .int .u32 C] rfl rfl 37 #[.int .u8 0, .int .u32 0, .string ⟨#[]⟩, .int .u32 0] (set_far R4.out (a := ⟨w2.heap.size, 3, none⟩) hne _) (by kernel_rfl) rfl (row4 _ _ _ _) ?_)
    refine bodyPost_ret (v := .agg #[.int .u8 K, .int .u32 I, .string ⟨#[]⟩, .int .u32 C]) (results_cell_row rfl _ _ w.heap.size 37 #[.int .u8 K, .int .u32 I, .string ⟨#[]⟩, .int .u32 C] (0, 0) _ rfl (fin.out _ (set_far R4.out (a := ⟨w2.heap.size, 3, none⟩) hne _) _) Tryz.underlying37 rfl (by kernel_rfl)) rfl ?_
    exact ⟨by rw [HX1.out, HY1.out]; rfl, below_setRow (B4.out.setCell (Nat.le_of_lt hsz) _) (Nat.le_refl _) _⟩
set_option maxRecDepth 100000 in
set_option maxHeartbeats 2000000 in
theorem parse_in (s : ByteArray) (hs : s.size ≤ maxLen) (w : World) :
    Calls Tryz.prog 71 #[.string s] w fun e w' => e = .returned (.tuple #[vK (deK s), .int .i64 (deKE s)]) ∧ Below w.heap.size w w' := by
  have CT := Lib.hid (takenKey_in s hs)
  have hlim := tkK_lim s
  have HI : Hid (deK s = if okK (tkK s) = true ∧ wrK (tkK s) = s then tkK s else zKy) := Lib.hid rfl
  have HX : Hid (deKE s = if okK (tkK s) = true ∧ wrK (tkK s) = s then 0 else 4) := Lib.hid rfl
  generalize tkK s = n at *
  have CE := Lib.hid (key_in n hlim)
  have HE := Lib.hid (@chK_yes n)
  have HF := Lib.hid (@chK_no n)
  obtain ⟨K, I, N, C⟩ := n
  unfold vK at CT CE
  dsimp only at CT CE
  have R0 := Lib.hid (heap_alloc_new w (.cells #[.int .u8 0, .int .u32 0, .string ⟨#[]⟩, .int .u32 0] 37))
  have B0 := Lib.hid ((Below.refl w.heap.size w).alloc (Nat.le_refl _) (.cells #[.int .u8 0, .int .u32 0, .string ⟨#[]⟩, .int .u32 0] 37))
  have hsz : w.heap.size < (w.alloc (.cells #[.int .u8 0, .int .u32 0, .string ⟨#[]⟩, .int .u32 0] 37)).heap.size := by simp
  clear hs
  go_enter Tryz.func71, Tryz.ntmps71
  go_wp2_with fail
  change Calls _ _ _ (w.alloc (.cells #[.int .u8 0, .int .u32 0, .string ⟨#[]⟩, .int .u32 0] 37)) _
  generalize w.alloc (.cells #[.int .u8 0, .int .u32 0, .string ⟨#[]⟩, .int .u32 0] 37) = W at *
  refine (CT.out _).mono ?_
  rintro e w1 ⟨rfl, hb⟩
  have R1 := Lib.hid (row_bel R0.out hb hsz)
  have B1 := Lib.hid (B0.out.trans (hb.mono B0.out.size))
  have N1 := Lib.hid (new_row (old := #[.int .u8 0, .int .u32 0, .string ⟨#[]⟩, .int .u32 0]) (cs := #[.int .u8 K, .int .u32 I, .string N, .int .u32 C]) (t := 37) R1.out rfl)
  clear hb R0 B0 CT
  go_wp2_with (first
    | (refine wpList_store_row rfl 37 (.tmp 4) (.tmp 8) rfl w1.heap.size #[.int .u8 K, .int .u32 I, .string N, .int .u32 C] rfl rfl 37 #[.int .u8 0, .int .u32 0, .string ⟨#[]⟩, .int .u32 0] (heap_alloc_new w1 _) (by kernel_rfl) rfl (row4 _ _ _ _) ?_; change wpList _ _ _ _ _ ((w1.alloc (.cells #[.int .u8 0, .int .u32 0, .string ⟨#[]⟩, .int .u32 0] 37)).setRow w1.heap.size #[.int .u8 K, .int .u32 I, .string N, .int .u32 C]); generalize ((w1.alloc (.cells #[.int .u8 0, .int .u32 0, .string ⟨#[]⟩, .int .u32 0] 37)).setRow w1.heap.size #[.int .u8 K, .int .u32 I, .string N, .int .u32 C]) = W2 at *)
    | (refine wpList_load_row rfl 37 (.tmp 4) rfl w1.heap.size rfl 37 #[.int .u8 K, .int .u32 I, .string N, .int .u32 C] (0, 0) _ N1.out.2.1 Tryz.underlying37 rfl (by kernel_rfl) ?_))
  refine (CE.out _).mono ?_
  rintro e w3 ⟨rfl, hb⟩
  have hlt2 : w1.heap.size < W2.heap.size := by
    rcases Nat.lt_or_ge w1.heap.size W2.heap.size with h' | h'
    · exact h'
    · have := N1.out.2.1; rw [Array.getElem?_eq_none h'] at this; cases this
  have Rg := Lib.hid (row_bel N1.out.1 hb (by have := B1.out.size; omega))
  have Rn := Lib.hid (row_bel N1.out.2.1 hb hlt2)
  have B3 := Lib.hid (B1.out.trans ((N1.out.2.2.trans (hb.mono N1.out.2.2.size)).mono B1.out.size))
  clear hb N1 CE R1 B1 hlt2 hsz
  have hz := setRow_heap' (cs := #[.int .u8 0, .int .u32 0, .string ⟨#[]⟩, .int .u32 0]) Rg.out
  have hr := setRow_heap' (cs := #[.int .u8 K, .int .u32 I, .string N, .int .u32 C]) Rg.out
  have HZ := Lib.hid hz
  have HR := Lib.hid hr
  clear hz hr
  cases hq : okK ⟨K, I, N, C⟩
  · obtain ⟨e1, e2⟩ := HF.out hq
    have H1 := Lib.hid (show deK s = zKy by rw [HI.out, if_neg (by rw [hq]; rintro ⟨h, _⟩; cases h)])
    have H2 := Lib.hid (show deKE s = 4 by rw [HX.out, if_neg (by rw [hq]; rintro ⟨h, _⟩; cases h)])
    rw [e1]
    clear hq e1 e2 HE HF HI HX
    go_wp2_with (refine wpList_store_row rfl 37 (.tmp 2) (.tmp 21) rfl w.heap.size #[.int .u8 0, .int .u32 0, .string ⟨#[]⟩, .int .u32 0] rfl rfl 37 #[.int .u8 0, .int .u32 0, .string ⟨#[]⟩, .int .u32 0] Rg.out (by kernel_rfl) rfl (row4 _ _ _ _) ?_)
    refine bodyPost_ret (v := .tuple #[.agg #[.int .u8 0, .int .u32 0, .string ⟨#[]⟩, .int .u32 0], .int .i64 4]) (results_row2 rfl _ _ w.heap.size 37 #[.int .u8 0, .int .u32 0, .string ⟨#[]⟩, .int .u32 0] (0, 0) _ rfl HZ.out Tryz.underlying37 rfl (by kernel_rfl) _ rfl) rfl ?_
    exact ⟨by rw [H1.out, H2.out]; rfl, below_setRow B3.out (Nat.le_refl _) _⟩
  · obtain ⟨e1, e2⟩ := HE.out hq
    by_cases hw : wrK ⟨K, I, N, C⟩ = s
    · obtain ⟨s1, s2⟩ := eq_str s
      have H1 := Lib.hid (show deK s = ⟨K, I, N, C⟩ by rw [HI.out, if_pos ⟨hq, hw⟩])
      have H2 := Lib.hid (show deKE s = 0 by rw [HX.out, if_pos ⟨hq, hw⟩])
      rw [e1, e2, hw]
      clear hq hw e1 e2 HE HF HI HX
      go_wp2_with (first
        | (refine wpList_load_row rfl 37 (.tmp 4) rfl w1.heap.size rfl 37 #[.int .u8 K, .int .u32 I, .string N, .int .u32 C] (0, 0) _ Rn.out Tryz.underlying37 rfl (by kernel_rfl) ?_)
        | (refine wpList_store_row rfl 37 (.tmp 2) (.tmp 22) rfl w.heap.size #[.int .u8 K, .int .u32 I, .string N, .int .u32 C] rfl rfl 37 #[.int .u8 0, .int .u32 0, .string ⟨#[]⟩, .int .u32 0] Rg.out (by kernel_rfl) rfl (row4 _ _ _ _) ?_))
      refine bodyPost_ret (v := .tuple #[.agg #[.int .u8 K, .int .u32 I, .string N, .int .u32 C], .int .i64 0]) (results_row2 rfl _ _ w.heap.size 37 #[.int .u8 K, .int .u32 I, .string N, .int .u32 C] (0, 0) _ rfl HR.out Tryz.underlying37 rfl (by kernel_rfl) _ rfl) rfl ?_
      exact ⟨by rw [H1.out, H2.out]; rfl, below_setRow B3.out (Nat.le_refl _) _⟩
    · obtain ⟨s1, s2⟩ := ne_str hw
      have H1 := Lib.hid (show deK s = zKy by rw [HI.out, if_neg (fun h => hw h.2)])
      have H2 := Lib.hid (show deKE s = 4 by rw [HX.out, if_neg (fun h => hw h.2)])
      rw [e1, e2]
      clear hq hw e1 e2 HE HF HI HX
      go_wp2_with (refine wpList_store_row rfl 37 (.tmp 2) (.tmp 21) rfl w.heap.size #[.int .u8 0, .int .u32 0, .string ⟨#[]⟩, .int .u32 0] rfl rfl 37 #[.int .u8 0, .int .u32 0, .string ⟨#[]⟩, .int .u32 0] Rg.out (by kernel_rfl) rfl (row4 _ _ _ _) ?_)
      refine bodyPost_ret (v := .tuple #[.agg #[.int .u8 0, .int .u32 0, .string ⟨#[]⟩, .int .u32 0], .int .i64 4]) (results_row2 rfl _ _ w.heap.size 37 #[.int .u8 0, .int .u32 0, .string ⟨#[]⟩, .int .u32 0] (0, 0) _ rfl HZ.out Tryz.underlying37 rfl (by kernel_rfl) _ rfl) rfl ?_
      exact ⟨by rw [H1.out, H2.out]; rfl, below_setRow B3.out (Nat.le_refl _) _⟩
end Go.Proofs.YtjkmfonngbendaaGreatDoor.Ino
/- The document's own answers about keys. -/
namespace Go.Proofs.YtjkmfonngbendaaGreatDoor.Ino
set_option linter.unusedVariables false
set_option linter.unusedSimpArgs false
open Go.ChangeShapes Go.WideShapes Go.ChangeAt Go.RowKit
open BigFrame
open Rg
open Pk (be num be_length num_be num_lt bs bs_size nB nE tN tR tE xB_size ref_bytes ref_take_any)
open Ph (has tl tl_len nb refName_any)
theorem refLetter_in (K : Nat) (w : World) : Calls Tryz.prog 145 #[.int .u8 K] w fun e w' => e = .returned (.string (ltB K)) ∧ w = w' := by
  cases k1 : decide (K = 1)
  · have K1 := eqz1 k1
    cases k2 : decide (K = 2)
    · have K2 := eqz2 k2
      cases k3 : decide (K = 3)
      · have K3 := eqz3 k3
        cases k4 : decide (K = 4)
        · have K4 := eqz4 k4
          have HL := Lib.hid (show ltB K = ⟨#[]⟩ by unfold ltB lt; rw [if_neg (of_decide_eq_false k1), if_neg (of_decide_eq_false k2), if_neg (of_decide_eq_false k3), if_neg (of_decide_eq_false k4)]; rfl)
          clear k1 k2 k3 k4
          go_enter Tryz.func145, Tryz.ntmps145
          go_wp2
          go_ret
          exact ⟨by rw [HL.out]; rfl, rfl⟩
        · have K4 := eqz4 k4
          have HL := Lib.hid (show ltB K = ⟨#[120]⟩ by rw [of_decide_eq_true k4]; rfl)
          clear k1 k2 k3 k4
          go_enter Tryz.func145, Tryz.ntmps145
          go_wp2
          go_ret
          exact ⟨by rw [HL.out]; rfl, rfl⟩
      · have K3 := eqz3 k3
        have HL := Lib.hid (show ltB K = ⟨#[99]⟩ by rw [of_decide_eq_true k3]; rfl)
        clear k1 k2 k3
        go_enter Tryz.func145, Tryz.ntmps145
        go_wp2
        go_ret
        exact ⟨by rw [HL.out]; rfl, rfl⟩
    · have K2 := eqz2 k2
      have HL := Lib.hid (show ltB K = ⟨#[100]⟩ by rw [of_decide_eq_true k2]; rfl)
      clear k1 k2
      go_enter Tryz.func145, Tryz.ntmps145
      go_wp2
      go_ret
      exact ⟨by rw [HL.out]; rfl, rfl⟩
  · have K1 := eqz1 k1
    have HL := Lib.hid (show ltB K = ⟨#[105]⟩ by rw [of_decide_eq_true k1]; rfl)
    clear k1
    go_enter Tryz.func145, Tryz.ntmps145
    go_wp2
    go_ret
    exact ⟨by rw [HL.out]; rfl, rfl⟩
set_option maxHeartbeats 1000000 in
theorem refPrefix_in (K I : Nat) (hI : I < 4294967296) (w : World) :
    Calls Tryz.prog 183 #[.int .u8 K, .int .u32 I] w fun e w' => e = .returned (.string (pfx K I)) ∧ Below w.heap.size w w' := by
  have hz := ltB_size (K := K)
  have HU := Lib.hid (u64_id (n := I) (by omega))
  have HN := Lib.hid (fun w => ref_bytes I 4 w (by omega) (by omega))
  have hbz : (bs (be 4 I)).size = 4 := by rw [bs_size, be_length]
  by_cases h0 : lt K = []
  · have HP := Lib.hid (show pfx K I = ByteArray.empty by unfold pfx; rw [if_pos h0])
    have e0 : (ltB K).size = 0 := by unfold ltB; rw [h0]; rfl
    obtain ⟨e1, e2⟩ := emp_of (decide_eq_true e0)
    have e3 := emp_yes e0
    clear h0 e0
    go_enter Tryz.func183, Tryz.ntmps183
    go_wp2_with (go_at_call 145; refine (refLetter_in K _).mono ?_; rintro e w' ⟨rfl, rfl⟩)
    go_ret
    exact ⟨by rw [HP.out]; rfl, Below.refl _ _⟩
  · have HP := Lib.hid (show pfx K I = ltB K ++ bs (be 4 I) by unfold pfx; rw [if_neg h0]; rfl)
    have e0 : ¬ (ltB K).size = 0 := by
      unfold ltB
      rw [bs_size]
      intro h
      exact h0 (List.eq_nil_of_length_eq_zero h)
    obtain ⟨e1, e2⟩ := emp_of (decide_eq_false e0)
    have e3 := emp_no e0
    clear h0 e0
    go_enter Tryz.func183, Tryz.ntmps183
    go_wp2_with fail
    refine (refLetter_in K _).mono ?_
    rintro e w' ⟨rfl, rfl⟩
    go_wp2_with fail
    refine (refLetter_in K _).mono ?_
    rintro e w' ⟨rfl, rfl⟩
    have u := HU.out
    go_wp2_with (go_at_call 62; refine (HN.out _).mono ?_; rintro e w' ⟨rfl, hb⟩)
    go_ret
    exact ⟨by rw [HP.out]; rfl, hb⟩
set_option maxRecDepth 100000 in
set_option maxHeartbeats 2000000 in
theorem refRight_in (k : Ky) (hl : k.lim) (hN : k.N.size ≤ maxLen) (w : World) :
    Calls Tryz.prog 146 #[vK k] w fun e w' => e = .returned (.bool (okK k)) ∧ Below w.heap.size w w' := by
  obtain ⟨K, I, N, C⟩ := k
  obtain ⟨l1, l2, l3⟩ := hl
  dsimp only at l1 l2 l3 hN
  unfold vK
  dsimp only
  have HNm := Lib.hid (fun w => refName_any N w hN)
  have hz := ltB_size (K := K)
  have hq : okK ⟨K, I, N, C⟩ = (decide (1 ≤ I) && (if K = 1 then decide (N.size = 0) && decide (C = 0) else if K = 2 ∨ K = 4 then nb N && decide (C = 0) else if K = 3 then decide (N.size = 0) && decide (C < 512) else false)) := rfl
  by_cases hk : 1 ≤ K ∧ K ≤ 4
  · have e0 : ¬ (ltB K).size = 0 := by
      unfold ltB
      rw [bs_size]
      intro h
      exact lt_of hk.1 hk.2 (List.eq_nil_of_length_eq_zero h)
    obtain ⟨e1, e2⟩ := emp_of (decide_eq_false e0)
    have e3 := emp_no e0
    clear e0
    cases i0 : decide (I = 0)
    · have I0 := eqz0 i0
      have i1 : decide (1 ≤ I) = true := decide_eq_true (by have := of_decide_eq_false i0; omega)
      rw [i1, Bool.true_and] at hq
      clear i1 i0
      cases k24 : decide (K = 2 ∨ K = 4)
      · have hn := of_decide_eq_false k24
        have K2 := eqz2 (a := K) (q := false) (decide_eq_false (by omega))
        have K4 := eqz4 (a := K) (q := false) (decide_eq_false (by omega))
        cases k3 : decide (K = 3)
        · have K3 := eqz3 k3
          have h3 := of_decide_eq_false k3
          rw [if_pos (by omega)] at hq
          clear k24 hn k3 h3 hk
          cases a1 : decide (N.size = 0)
          · obtain ⟨A3, A4⟩ := emp_of a1
            have A5 := emp_no (of_decide_eq_false a1)
            rw [a1] at hq
            have HQ := Lib.hid (show okK ⟨K, I, N, C⟩ = false by rw [hq]; rfl)
            clear hq a1
            go_enter Tryz.func146, Tryz.ntmps146
            go_wp2_with (go_at_call 145; refine (refLetter_in K _).mono ?_; rintro e w' ⟨rfl, rfl⟩)
            go_ret
            exact ⟨by rw [HQ.out]; rfl, (Below.refl _ _).alloc (Nat.le_refl _) _⟩
          · obtain ⟨A3, A4⟩ := emp_of a1
            have A5 := emp_yes (of_decide_eq_true a1)
            rw [a1] at hq
            cases a2 : decide (C = 0)
            · have A2 := eqz0 a2
              rw [a2] at hq
              have HQ := Lib.hid (show okK ⟨K, I, N, C⟩ = false by rw [hq]; rfl)
              clear hq a1 a2
              go_enter Tryz.func146, Tryz.ntmps146
              go_wp2_with (go_at_call 145; refine (refLetter_in K _).mono ?_; rintro e w' ⟨rfl, rfl⟩)
              go_ret
              exact ⟨by rw [HQ.out]; rfl, (Below.refl _ _).alloc (Nat.le_refl _) _⟩
            · have A2 := eqz0 a2
              rw [a2] at hq
              have HQ := Lib.hid (show okK ⟨K, I, N, C⟩ = true by rw [hq]; rfl)
              clear hq a1 a2
              go_enter Tryz.func146, Tryz.ntmps146
              go_wp2_with (go_at_call 145; refine (refLetter_in K _).mono ?_; rintro e w' ⟨rfl, rfl⟩)
              go_ret
              exact ⟨by rw [HQ.out]; rfl, (Below.refl _ _).alloc (Nat.le_refl _) _⟩
        · have K3 := eqz3 k3
          have h3 := of_decide_eq_true k3
          rw [if_neg (by omega), if_neg (by omega), if_pos h3] at hq
          clear k24 hn k3 h3 hk
          cases a1 : decide (N.size = 0)
          · obtain ⟨A3, A4⟩ := emp_of a1
            have A5 := emp_no (of_decide_eq_false a1)
            rw [a1] at hq
            have HQ := Lib.hid (show okK ⟨K, I, N, C⟩ = false by rw [hq]; rfl)
            clear hq a1
            go_enter Tryz.func146, Tryz.ntmps146
            go_wp2_with (go_at_call 145; refine (refLetter_in K _).mono ?_; rintro e w' ⟨rfl, rfl⟩)
            go_ret
            exact ⟨by rw [HQ.out]; rfl, (Below.refl _ _).alloc (Nat.le_refl _) _⟩
          · obtain ⟨A3, A4⟩ := emp_of a1
            have A5 := emp_yes (of_decide_eq_true a1)
            rw [a1] at hq
            cases a2 : decide (C < 512)
            · have A2 := ltzC a2
              rw [a2] at hq
              have HQ := Lib.hid (show okK ⟨K, I, N, C⟩ = false by rw [hq]; rfl)
              clear hq a1 a2
              go_enter Tryz.func146, Tryz.ntmps146
              go_wp2_with (go_at_call 145; refine (refLetter_in K _).mono ?_; rintro e w' ⟨rfl, rfl⟩)
              go_ret
              exact ⟨by rw [HQ.out]; rfl, (Below.refl _ _).alloc (Nat.le_refl _) _⟩
            · have A2 := ltzC a2
              rw [a2] at hq
              have HQ := Lib.hid (show okK ⟨K, I, N, C⟩ = true by rw [hq]; rfl)
              clear hq a1 a2
              go_enter Tryz.func146, Tryz.ntmps146
              go_wp2_with (go_at_call 145; refine (refLetter_in K _).mono ?_; rintro e w' ⟨rfl, rfl⟩)
              go_ret
              exact ⟨by rw [HQ.out]; rfl, (Below.refl _ _).alloc (Nat.le_refl _) _⟩
      · have hn := of_decide_eq_true k24
        have K3 := eqz3 (a := K) (q := false) (decide_eq_false (by omega))
        rw [if_neg (by omega), if_pos hn] at hq
        cases k2 : decide (K = 2)
        · have K2 := eqz2 k2
          have K4 := eqz4 (a := K) (q := true) (decide_eq_true (by have := of_decide_eq_false k2; omega))
          clear k24 hn k2 hk
          cases a1 : nb N
          · rw [a1] at hq HNm
            have HQ := Lib.hid (show okK ⟨K, I, N, C⟩ = false by rw [hq]; rfl)
            clear hq a1
            go_enter Tryz.func146, Tryz.ntmps146
            go_wp2_with (first | (go_at_call 145; refine (refLetter_in K _).mono ?_; rintro e w' ⟨rfl, rfl⟩) | (go_at_call 185; refine (HNm.out _).mono ?_; rintro e w' ⟨rfl, rfl⟩))
            go_ret
            exact ⟨by rw [HQ.out]; rfl, (Below.refl _ _).alloc (Nat.le_refl _) _⟩
          · rw [a1] at hq HNm
            cases a2 : decide (C = 0)
            · have A2 := eqz0 a2
              rw [a2] at hq
              have HQ := Lib.hid (show okK ⟨K, I, N, C⟩ = false by rw [hq]; rfl)
              clear hq a1 a2
              go_enter Tryz.func146, Tryz.ntmps146
              go_wp2_with (first | (go_at_call 145; refine (refLetter_in K _).mono ?_; rintro e w' ⟨rfl, rfl⟩) | (go_at_call 185; refine (HNm.out _).mono ?_; rintro e w' ⟨rfl, rfl⟩))
              go_ret
              exact ⟨by rw [HQ.out]; rfl, (Below.refl _ _).alloc (Nat.le_refl _) _⟩
            · have A2 := eqz0 a2
              rw [a2] at hq
              have HQ := Lib.hid (show okK ⟨K, I, N, C⟩ = true by rw [hq]; rfl)
              clear hq a1 a2
              go_enter Tryz.func146, Tryz.ntmps146
              go_wp2_with (first | (go_at_call 145; refine (refLetter_in K _).mono ?_; rintro e w' ⟨rfl, rfl⟩) | (go_at_call 185; refine (HNm.out _).mono ?_; rintro e w' ⟨rfl, rfl⟩))
              go_ret
              exact ⟨by rw [HQ.out]; rfl, (Below.refl _ _).alloc (Nat.le_refl _) _⟩
        · have K2 := eqz2 k2
          clear k24 hn k2 hk
          cases a1 : nb N
          · rw [a1] at hq HNm
            have HQ := Lib.hid (show okK ⟨K, I, N, C⟩ = false by rw [hq]; rfl)
            clear hq a1
            go_enter Tryz.func146, Tryz.ntmps146
            go_wp2_with (first | (go_at_call 145; refine (refLetter_in K _).mono ?_; rintro e w' ⟨rfl, rfl⟩) | (go_at_call 185; refine (HNm.out _).mono ?_; rintro e w' ⟨rfl, rfl⟩))
            go_ret
            exact ⟨by rw [HQ.out]; rfl, (Below.refl _ _).alloc (Nat.le_refl _) _⟩
          · rw [a1] at hq HNm
            cases a2 : decide (C = 0)
            · have A2 := eqz0 a2
              rw [a2] at hq
              have HQ := Lib.hid (show okK ⟨K, I, N, C⟩ = false by rw [hq]; rfl)
              clear hq a1 a2
              go_enter Tryz.func146, Tryz.ntmps146
              go_wp2_with (first | (go_at_call 145; refine (refLetter_in K _).mono ?_; rintro e w' ⟨rfl, rfl⟩) | (go_at_call 185; refine (HNm.out _).mono ?_; rintro e w' ⟨rfl, rfl⟩))
              go_ret
              exact ⟨by rw [HQ.out]; rfl, (Below.refl _ _).alloc (Nat.le_refl _) _⟩
            · have A2 := eqz0 a2
              rw [a2] at hq
              have HQ := Lib.hid (show okK ⟨K, I, N, C⟩ = true by rw [hq]; rfl)
              clear hq a1 a2
              go_enter Tryz.func146, Tryz.ntmps146
              go_wp2_with (first | (go_at_call 145; refine (refLetter_in K _).mono ?_; rintro e w' ⟨rfl, rfl⟩) | (go_at_call 185; refine (HNm.out _).mono ?_; rintro e w' ⟨rfl, rfl⟩))
              go_ret
              exact ⟨by rw [HQ.out]; rfl, (Below.refl _ _).alloc (Nat.le_refl _) _⟩
    · have I0 := eqz0 i0
      have i1 : decide (1 ≤ I) = false := decide_eq_false (by have := of_decide_eq_true i0; omega)
      rw [i1, Bool.false_and] at hq
      clear i1 i0
      cases k2 : decide (K = 2)
      · have K2 := eqz2 k2
        cases k4 : decide (K = 4)
        · have K4 := eqz4 k4
          have HQ := Lib.hid (show okK ⟨K, I, N, C⟩ = false by rw [hq])
          clear hq k2 k4 hk
          go_enter Tryz.func146, Tryz.ntmps146
          go_wp2_with (go_at_call 145; refine (refLetter_in K _).mono ?_; rintro e w' ⟨rfl, rfl⟩)
          go_ret
          exact ⟨by rw [HQ.out]; rfl, (Below.refl _ _).alloc (Nat.le_refl _) _⟩
        · have K4 := eqz4 k4
          have HQ := Lib.hid (show okK ⟨K, I, N, C⟩ = false by rw [hq])
          clear hq k2 k4 hk
          go_enter Tryz.func146, Tryz.ntmps146
          go_wp2_with (go_at_call 145; refine (refLetter_in K _).mono ?_; rintro e w' ⟨rfl, rfl⟩)
          go_ret
          exact ⟨by rw [HQ.out]; rfl, (Below.refl _ _).alloc (Nat.le_refl _) _⟩
      · have K2 := eqz2 k2
        have HQ := Lib.hid (show okK ⟨K, I, N, C⟩ = false by rw [hq])
        clear hq k2 hk
        go_enter Tryz.func146, Tryz.ntmps146
        go_wp2_with (go_at_call 145; refine (refLetter_in K _).mono ?_; rintro e w' ⟨rfl, rfl⟩)
        go_ret
        exact ⟨by rw [HQ.out]; rfl, (Below.refl _ _).alloc (Nat.le_refl _) _⟩
  · have e0 : (ltB K).size = 0 := by
      unfold ltB lt
      rw [if_neg (by omega), if_neg (by omega), if_neg (by omega), if_neg (by omega)]; rfl
    obtain ⟨e1, e2⟩ := emp_of (decide_eq_true e0)
    have e3 := emp_yes e0
    have K2 := eqz2 (a := K) (q := false) (decide_eq_false (by omega))
    have K4 := eqz4 (a := K) (q := false) (decide_eq_false (by omega))
    rw [if_neg (by omega), if_neg (by omega), if_neg (by omega), Bool.and_false] at hq
    clear e0
    have HQ := Lib.hid (show okK ⟨K, I, N, C⟩ = false by rw [hq])
    clear hq hk
    go_enter Tryz.func146, Tryz.ntmps146
    go_wp2_with (go_at_call 145; refine (refLetter_in K _).mono ?_; rintro e w' ⟨rfl, rfl⟩)
    go_ret
    exact ⟨by rw [HQ.out]; rfl, (Below.refl _ _).alloc (Nat.le_refl _) _⟩
set_option maxRecDepth 100000 in
set_option maxHeartbeats 2000000 in
theorem refKey_in (k : Ky) (hl : k.lim) (hNm : k.N.size ≤ maxLen) (w : World) :
    Calls Tryz.prog 142 #[vK k] w fun e w' => e = .returned (.tuple #[.string (enK k), .int .i64 (chK k)]) ∧ Below w.heap.size w w' := by
  obtain ⟨K, I, N, C⟩ := k
  have HC := Lib.hid (refRight_in ⟨K, I, N, C⟩ hl hNm)
  obtain ⟨l1, l2, l3⟩ := hl
  dsimp only at l1 l2 l3
  have C0 := box_cell w #[.int .u8 K, .int .u32 I, .string N, .int .u32 C] 37 0 rfl
  have C1 := box_cell w #[.int .u8 K, .int .u32 I, .string N, .int .u32 C] 37 1 rfl
  have C2 := box_cell w #[.int .u8 K, .int .u32 I, .string N, .int .u32 C] 37 2 rfl
  have C3 := box_cell w #[.int .u8 K, .int .u32 I, .string N, .int .u32 C] 37 3 rfl
  have B0 := Lib.hid ((Below.refl w.heap.size w).alloc (Nat.le_refl _) (.cells #[.int .u8 K, .int .u32 I, .string N, .int .u32 C] 37))
  have hsz : w.heap.size < (w.alloc (.cells #[.int .u8 K, .int .u32 I, .string N, .int .u32 C] 37)).heap.size := by simp
  unfold vK
  dsimp only
  cases hq : okK ⟨K, I, N, C⟩
  · have HQ := Lib.hid (chK_no hq)
    rw [hq] at HC
    clear hq
    go_enter Tryz.func142, Tryz.ntmps142
    go_wp2_with fail
    change Calls _ _ _ (w.alloc (.cells #[.int .u8 K, .int .u32 I, .string N, .int .u32 C] 37)) _
    generalize w.alloc (.cells #[.int .u8 K, .int .u32 I, .string N, .int .u32 C] 37) = W at *
    refine (HC.out W).mono ?_
    rintro e w1 ⟨rfl, hb⟩
    have B1 := Lib.hid (B0.out.trans (hb.mono B0.out.size))
    clear C0 C1 C2 C3 hb B0 HC
    go_wp2
    go_ret2
    exact ⟨by rw [HQ.out.1, HQ.out.2]; rfl, B1.out⟩
  · have HQ := Lib.hid (chK_yes hq)
    have ht : N.size ≤ 24 := okK_size hq
    have HP := Lib.hid (fun w => refPrefix_in K I l2 w)
    have HN := Lib.hid (fun w => ref_bytes C 4 w (by omega) (by omega))
    have HU := Lib.hid (u64_id (n := C) (by omega))
    have pz := pfx_size K I
    have cz : (bs (be 4 C)).size = 4 := by rw [bs_size, be_length]
    rw [hq] at HC
    clear hq
    go_enter Tryz.func142, Tryz.ntmps142
    go_wp2_with fail
    change Calls _ _ _ (w.alloc (.cells #[.int .u8 K, .int .u32 I, .string N, .int .u32 C] 37)) _
    obtain ⟨b0, hb0⟩ : ∃ b, w.heap.size = b := ⟨_, rfl⟩
    have HB0 := Lib.hid hb0
    rw [hb0] at C0 C1 C2 C3 B0 hsz ⊢
    clear hb0
    generalize w.alloc (.cells #[.int .u8 K, .int .u32 I, .string N, .int .u32 C] 37) = W at *
    refine (HC.out W).mono ?_
    rintro e w1 ⟨rfl, hb⟩
    have D0 := (Below.cell hb (p := ⟨b0, 0, none⟩) hsz).trans C0
    have D1 := (Below.cell hb (p := ⟨b0, 1, none⟩) hsz).trans C1
    have D2 := (Below.cell hb (p := ⟨b0, 2, none⟩) hsz).trans C2
    have D3 := (Below.cell hb (p := ⟨b0, 3, none⟩) hsz).trans C3
    have B1 := Lib.hid (B0.out.trans (hb.mono (Nat.le_of_lt hsz)))
    have hbl : b0 < w1.heap.size := Nat.lt_of_lt_of_le hsz hb.size
    clear C0 C1 C2 C3 hb B0 HC hsz
    obtain ⟨P, hP⟩ : ∃ P, pfx K I = P := ⟨_, rfl⟩
    rw [hP] at HP pz
    have HPP := Lib.hid hP
    clear hP
    go_wp2_with fail
    refine wp_region_G (fun w' => Below w1.heap.size w1 w') (by kernel_rfl) (by kernel_rfl) (Below.refl _ _).drew ?_
    refine wpG_val (.pointer (some ⟨b0, 0, none⟩)) rfl (by rfl) (fun w' hSw => by go_simp) ?_
    simp only [List.setIfInBounds_toArray, List.set_cons_zero, List.set_cons_succ]
    refine wpG_val (.int .u8 K) rfl (by rfl) (fun w' hSw => by have c := (Below.cell hSw (p := ⟨b0, 0, none⟩) hbl).trans D0; go_simp) ?_
    simp only [List.setIfInBounds_toArray, List.set_cons_zero, List.set_cons_succ]
    refine wpG_val (.pointer (some ⟨b0, 1, none⟩)) rfl (by rfl) (fun w' hSw => by go_simp) ?_
    simp only [List.setIfInBounds_toArray, List.set_cons_zero, List.set_cons_succ]
    refine wpG_val (.int .u32 I) rfl (by rfl) (fun w' hSw => by have c := (Below.cell hSw (p := ⟨b0, 1, none⟩) hbl).trans D1; go_simp) ?_
    simp only [List.setIfInBounds_toArray, List.set_cons_zero, List.set_cons_succ]
    refine wpG_call (.string P) 183 #[.int .u8 K, .int .u32 I] rfl (by rfl) (fun w' => by go_simp) (fun w' hSw => (HP.out w').mono fun e w2 h => ⟨h.1, hSw.trans (h.2.mono hSw.size)⟩) ?_
    simp only [List.setIfInBounds_toArray, List.set_cons_zero, List.set_cons_succ]
    refine wpG_val (.pointer (some ⟨b0, 2, none⟩)) rfl (by rfl) (fun w' hSw => by go_simp) ?_
    simp only [List.setIfInBounds_toArray, List.set_cons_zero, List.set_cons_succ]
    refine wpG_val (.string N) rfl (by rfl) (fun w' hSw => by have c := (Below.cell hSw (p := ⟨b0, 2, none⟩) hbl).trans D2; go_simp) ?_
    simp only [List.setIfInBounds_toArray, List.set_cons_zero, List.set_cons_succ]
    refine wpG_val (.string (P ++ N)) rfl (by rfl) (fun w' hSw => by go_simp <;> omega) ?_
    simp only [List.setIfInBounds_toArray, List.set_cons_zero, List.set_cons_succ]
    refine wpG_val (.string (P ++ N)) rfl (by rfl) (fun w' hSw => by go_simp) ?_
    simp only [List.setIfInBounds_toArray, List.set_cons_zero, List.set_cons_succ]
    refine wpG_nil ?_
    intro w2 hSw
    have E0 := (Below.cell hSw (p := ⟨b0, 0, none⟩) hbl).trans D0
    have E3 := (Below.cell hSw (p := ⟨b0, 3, none⟩) hbl).trans D3
    have B2 := Lib.hid (B1.out.trans (hSw.mono (Nat.le_of_lt hbl)))
    have hbl1 : b0 < w2.heap.size := Nat.lt_of_lt_of_le hbl hSw.size
    clear D0 D1 D2 D3 hSw B1 HP
    cases k3 : decide (K = 3)
    · have K3 := eqz3 k3
      have HW := Lib.hid (show wrK ⟨K, I, N, C⟩ = P ++ N by unfold wrK; dsimp only; rw [if_neg (of_decide_eq_false k3), HPP.out])
      clear k3
      go_wp2
      go_ret2
      exact ⟨by rw [HQ.out.1, HQ.out.2, HW.out]; rfl, by rw [HB0.out]; exact B2.out⟩
    · have K3 := eqz3 k3
      have HW := Lib.hid (show wrK ⟨K, I, N, C⟩ = P ++ N ++ bs (be 4 C) by unfold wrK; dsimp only; rw [if_pos (of_decide_eq_true k3), HPP.out])
      clear k3
      have u := HU.out
      go_wp2_with (go_at_call 62; refine (HN.out _).mono ?_; rintro e w' ⟨rfl, hb⟩)
      go_ret2
      exact ⟨by rw [HQ.out.1, HQ.out.2, HW.out]; rfl, by rw [HB0.out]; exact B2.out.trans (hb.mono (Nat.le_of_lt hbl1))⟩
end Go.Proofs.YtjkmfonngbendaaGreatDoor.Ino
