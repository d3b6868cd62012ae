/- The walk of the law file's lives (heap). -/
import Derived.Test.YtlpejbbmemhloaaGreatDoorLs
import Derived.Test.YtlpejbbmemhloaaGreatDoorNdC
import Derived.Test.YtlpejbbmemhloaaGreatDoorShaB
import Derived.Test.YtlpejbbmemhloaaGreatDoorGb3
import Derived.Test.YtlpejbbmemhloaaGreatDoorRgX
import Derived.Deep.Slices
import Derived.ChangeArms
import Derived.SizedLaws
import Derived.Lib.SmallJoins
import Derived.OpenShut
import Derived.FnData
import GoSem.ClaimJoined
import Derived.LaidMore
namespace Go.Proofs.YtlpejbbmemhloaaGreatDoor.Hp
set_option linter.unusedVariables false
set_option linter.unusedSimpArgs false
set_option maxRecDepth 100000
open Go.ChangeShapes Go.WideShapes Go.ChangeAt Go.RowKit
open Rg
open Ar Nd
open BigFrame
/-- a heap that the call made, in the variable of block g -/
def HVar (w W : World) (g : Nat) (A : Option Addr) (n c : Nat) (L : List Ce) : Prop := W.heap[g]? = some (.cells #[.int .u32 16, .slice A n c] 25 (0, 0)) ∧ MkC w W (.slice A n c) L ∧ w.heap.size ≤ g
/-- a kid that the call made, in the variable of block g -/
def KVar (w W : World) (g : Nat) (y : Kd) : Prop := W.heap[g]? = some (.cells (ecK y).toArray 45 (0, 0)) ∧ w.heap.size ≤ g
theorem HVar.go {w W W' : World} {g n c : Nat} {A : Option Addr} {L : List Ce} (h : HVar w W g A n c L) (hb : Below W.heap.size W W') : HVar w W' g A n c L := ⟨(hb.block _ (row_lt h.1)).trans h.1, h.2.1.go hb, h.2.2⟩
theorem KVar.go {w W W' : World} {g : Nat} {y : Kd} (h : KVar w W g y) (hb : Below W.heap.size W W') : KVar w W' g y := ⟨(hb.block _ (row_lt h.1)).trans h.1, h.2⟩
/-- the variables of lives -/
structure Lv (w W : World) (g1 g4 g6 : Nat) (A : Option Addr) (n c : Nat) (L : List Ce) (x2 x4 x6 : Kd) : Prop where
  v1 : HVar w W g1 A n c L
  v2 : KVar w W (g1 + 1) x2
  v4 : KVar w W g4 x4
  v6 : KVar w W g6 x6
  b : Below w.heap.size w W
  ne4 : g4 ≠ g1
  ne6 : g6 ≠ g1
theorem Lv.go {w W W' : World} {g1 g4 g6 n c : Nat} {A : Option Addr} {L : List Ce} {x2 x4 x6 : Kd} (h : Lv w W g1 g4 g6 A n c L x2 x4 x6) (hb : Below W.heap.size W W') : Lv w W' g1 g4 g6 A n c L x2 x4 x6 :=
  ⟨h.v1.go hb, h.v2.go hb, h.v4.go hb, h.v6.go hb, h.b.trans (hb.mono h.b.size), h.ne4, h.ne6⟩
theorem KVar.num {w W : World} {g : Nat} {y : Kd} (h : KVar w W g y) : W.cell? ⟨g, 1, none⟩ = some (.int .u32 y.n) := (cell_of_row _ _ 1 _ _ _ h.1).trans (by unfold ecK; rfl)
/-- the heap's variable stored over -/
theorem Lv.put {w W : World} {g1 g4 g6 n c n' c' : Nat} {A A' : Option Addr} {L L' : List Ce} {x2 x4 x6 : Kd} (h : Lv w W g1 g4 g6 A n c L x2 x4 x6) (hm : MkC w W (.slice A' n' c') L') :
    Lv w ((W.setCell ⟨g1, 0, none⟩ (.int .u32 16)).setCell ⟨g1, 1, none⟩ (.slice A' n' c')) g1 g4 g6 A' n' c' L' x2 x4 x6 := by
  have r1 := row_set (cs := [.int .u32 16, .slice A n c]) (i := 0) (u := .int .u32 16) h.v1.1
  have r2 := row_set (cs := [.int .u32 16, .slice A n c]) (i := 1) (u := .slice A' n' c') r1
  have hgg := grown_trans (grown_cell W g1 0 (.int .u32 16)) (grown_cell (W.setCell ⟨g1, 0, none⟩ (.int .u32 16)) g1 1 (.slice A' n' c'))
  exact ⟨⟨r2, MkC.two hm h.v1.1 h.v1.2.2, h.v1.2.2⟩, ⟨row_other hgg h.v2.1 (by omega), h.v2.2⟩, ⟨row_other hgg h.v4.1 h.ne4, h.v4.2⟩, ⟨row_other hgg h.v6.1 h.ne6, h.v6.2⟩, h.b.trans (below_of_grown hgg h.b.size h.v1.2.2), h.ne4, h.ne6⟩
end Go.Proofs.YtlpejbbmemhloaaGreatDoor.Hp
/- The walk of the law HeapRoom. -/
namespace Go.Proofs.YtlpejbbmemhloaaGreatDoor.Hp
set_option linter.unusedVariables false
set_option linter.unusedSimpArgs false
set_option maxRecDepth 100000
open Go.ChangeShapes Go.WideShapes Go.ChangeAt Go.RowKit
open Ar Nd
open BigFrame
/-- a cell of a list that came in -/
theorem HIn.cell {w : World} {A : Option Addr} {n i : Nat} {L : List Ce} {c : Ce} (h : HIn w A n L) (hc : L[i]? = some c) : ∃ b o, A = some ⟨b, o, none⟩ ∧ b < w.heap.size ∧ w.cell? ⟨b, o + i * 3, none⟩ = some (.int .u32 c.num) ∧ w.cell? ⟨b, o + i * 3 + 1, none⟩ = some (.string c.d) ∧ w.cell? ⟨b, o + i * 3 + 2, none⟩ = some (.int .i64 c.r) := by
  obtain ⟨b, o, e, hb, hr⟩ := h.ls i c hc
  exact ⟨b, o, e, hb, hr 0 _ rfl, hr 1 _ rfl, hr 2 _ rfl⟩
theorem okH.room {sz : Nat} {L : List Ce} (h : okH sz L) : L.length + 2 ≤ sz := by
  rcases Nat.eq_zero_or_pos L.length with h0 | h0
  · have := h.lo; omega
  · have hl : L[L.length - 1]? = some (L[L.length - 1]'(by omega)) := List.getElem?_eq_getElem _
    have h1 := h.cs.ge _ _ (by omega) hl
    have h2 := (h.cs _ _ (by omega) hl).2.1
    omega
end Go.Proofs.YtlpejbbmemhloaaGreatDoor.Hp
/- How arguments are opened: slices whose elements are structs of plain cells; how the bound of a statement reaches their lengths. -/
namespace Go.Proofs.YtlpejbbmemhloaaGreatDoor.Fr
set_option linter.unusedVariables false
open Go.ChangeShapes Go.WideShapes Go.RowKit Go.Deep
open Ar
theorem list_of {α : Type} {p : Nat → α → Prop} : ∀ n : Nat, (∀ i, i < n → ∃ x, p i x) → ∃ D : List α, D.length = n ∧ ∀ i x, D[i]? = some x → p i x
  | 0, _ => ⟨[], rfl, fun i x h => by simp at h⟩
  | n + 1, h => by
    obtain ⟨D, h1, h2⟩ := list_of n fun i hi => h i (by omega)
    obtain ⟨y, hy⟩ := h n (by omega)
    refine ⟨D ++ [y], by simp [h1], fun i x hx => ?_⟩
    rcases Nat.lt_or_ge i n with hlt | hge
    · rw [List.getElem?_append_left (by omega)] at hx; exact h2 i x hx
    · rw [List.getElem?_append_right (by omega), h1] at hx
      have : i = n := by
        rcases Nat.lt_or_ge n i with h3 | h3
        · rw [List.getElem?_eq_none (by simp; omega)] at hx; cases hx
        · omega
      subst this
      simp at hx; subst hx; exact hy
section
variable {H : Type} {enc : TypeId × Value → H} {P : Program} {w : World} {base : Nat} {spare : Nat → Bool} {held : Bool}
theorem open_ls {α : Type} (en : α → List Value) (k : Nat) {t e : TypeId} {fuel : Nat} {v : Value} {x : DataW H × List MemPlace} (ht : P.underlying t = some (.slice e)) (hk : P.cellsOf e = k) (hk0 : 0 < k)
    (hr : ∀ n cs y, cs.length = k → DataW.trod enc P w base spare held n e cs = some y → ∃ x : α, cs = en x) (hv : v.cells = #[v]) (h : DataW.trod enc P w base spare held fuel t v.cells.toList = some x) :
    (v = .slice none 0 0 ∧ x.1 = .nil) ∨ ∃ A n c m D, v = .slice A n c ∧ n = List.length D ∧ n ≤ c ∧ c ≤ maxLen ∧ Ls en k w w.heap.size A D ∧ ∃ E F, x.1 = .slice E F ∧ E.length = n ∧ E.length + F.length = m := by
  rw [hv] at h
  rcases open_slice ht h with ⟨h1, h2⟩ | ⟨a, len, cap, m, n, D, Pl, hcs, hb, hl, hm, hmm, hx, hi⟩
  · left; simp at h1; exact ⟨h1, by rw [h2]⟩
  · right
    have hlm : len ≤ m := by rw [hmm]; split <;> omega
    simp at hcs
    rw [hk] at hi
    obtain ⟨L, hL1, hL2⟩ := list_of (α := α) (p := fun i x => ∃ b o, (some a : Option Addr) = some ⟨b, o, none⟩ ∧ b < w.heap.size ∧ w.rangeAt b (o + i * k) (en x)) len fun i hil => by
      have hspot : a.spot = none := by
        obtain ⟨cs', h1, h2⟩ := hi 0 (by omega)
        obtain ⟨_, hlen, hcell⟩ := World.cells?_some h1
        have hc0 := (hcell 0 hk0).trans (List.getElem?_eq_getElem (by omega))
        rw [add_add, Nat.zero_mul] at hc0
        have := World.cell?_spot hc0
        simpa [Addr.add] using this
      obtain ⟨cs', h1, h2⟩ := hi i (by omega)
      obtain ⟨_, hlen, hcell⟩ := World.cells?_some h1
      obtain ⟨x, rfl⟩ := hr _ _ _ hlen h2
      have hc0 := (hcell 0 hk0).trans (List.getElem?_eq_getElem (by omega))
      rw [add_add] at hc0
      obtain ⟨b, o, spot⟩ := a
      simp only at hspot
      subst hspot
      refine ⟨x, b, o, rfl, ?_, fun j u hu => ?_⟩
      · have := World.block_lt_of_cell? w _ hc0
        rw [Ar.add_plain] at this
        exact this
      · have hj : j < k := by rw [← hlen]; exact (List.getElem?_eq_some_iff.1 hu).1
        have := hcell j hj
        rw [add_add, Ar.add_plain, ← Nat.add_assoc, hu] at this
        exact this
    refine ⟨some a, len, cap, m, L, hcs, hL1.symm, hl, hm, hL2, (List.range len).map D, (List.range (m - len)).map fun j => D (len + j), by rw [hx], by simp, ?_⟩
    simp
    omega
end
end Go.Proofs.YtlpejbbmemhloaaGreatDoor.Fr
/- A node as an argument: how it is read, how much it has. -/
namespace Go.Proofs.YtlpejbbmemhloaaGreatDoor.Fr
set_option linter.unusedVariables false
set_option linter.unusedSimpArgs false
set_option maxRecDepth 100000
open Go.Joins Go.ChangeShapes Go.WideShapes Go.RowKit Go.Deep
open Ar
open Nd (Kd Vo ecK ecV NdAt Wd fix_of)
open Pk (u8s u8s_length)
section
variable {H : Type} {enc : TypeId × Value → H} {w : World} {base : Nat} {spare : Nat → Bool} {held : Bool}
theorem cU : Tryz.prog.cellsOf 22 = 1 := by kernel_rfl
theorem cS : Tryz.prog.cellsOf 9 = 1 := by kernel_rfl
theorem cIt : Tryz.prog.cellsOf 63 = 2 := by kernel_rfl
theorem bIt : Tryz.prog.bytesOf 63 = 32 := by kernel_rfl
theorem rB : reachBytes = 140737488351232 := by kernel_rfl
theorem readI {n : Nat} {cs : List Value} {y : DataW H × List MemPlace} (hl : cs.length = 2) (h : DataW.trod enc Tryz.prog w base spare held n 63 cs = some y) : ∃ x : It.Itm, cs = It.enc x := by
  obtain ⟨xs, m, _, _, _, hxl, hf⟩ := DataW.trod_struct Tryz.underlying63 h
  have g0 : DataW.trod enc Tryz.prog w base spare held m 9 ((cs.drop 0).take (Tryz.prog.cellsOf 9)) = xs[0]? := hf 0 _ rfl
  have g1 : DataW.trod enc Tryz.prog w base spare held m 9 ((cs.drop 1).take (Tryz.prog.cellsOf 9)) = xs[1]? := hf 1 _ rfl
  rw [cS] at g0 g1
  match cs, hl with
  | [v0, v1], _ =>
    match xs, hxl with
    | [x0, x1], _ =>
      obtain ⟨s0, e0, _⟩ := DataW.trod_string Tryz.underlying9 (g0.trans rfl : _ = some x0)
      obtain ⟨s1, e1, _⟩ := DataW.trod_string Tryz.underlying9 (g1.trans rfl : _ = some x1)
      simp at e0 e1
      exact ⟨⟨s0, s1⟩, by rw [e0, e1]; rfl⟩
theorem open_ls1 {α : Type} (en : α → List Value) (k : Nat) {t e : TypeId} {fuel : Nat} {v : Value} {x : DataW H × List MemPlace} (ht : Tryz.prog.underlying t = some (.slice e)) (hk : Tryz.prog.cellsOf e = k) (hk0 : 0 < k)
    (hr : ∀ n cs y, cs.length = k → DataW.trod enc Tryz.prog w base spare held n e cs = some y → ∃ x : α, cs = en x) (h : DataW.trod enc Tryz.prog w base spare held fuel t [v] = some x) :
    (v = .slice none 0 0 ∧ x.1 = .nil) ∨ ∃ A n c m D, v = .slice A n c ∧ n = List.length D ∧ n ≤ c ∧ c ≤ maxLen ∧ Ls en k w w.heap.size A D ∧ ∃ E F, x.1 = .slice E F ∧ E.length = n ∧ E.length + F.length = m := by
  have hv : ∃ u : Value, v = u ∧ u.cells = #[u] := by
    rcases open_slice ht h with ⟨h1, _⟩ | ⟨a, len, cap, m, n, D, Pl, h1, _⟩
    · simp at h1; exact ⟨_, h1, rfl⟩
    · simp at h1; exact ⟨_, h1, rfl⟩
  obtain ⟨u, rfl, hc⟩ := hv
  exact open_ls en k ht hk hk0 hr hc (by rw [hc]; exact h)
theorem slI_of {x : DataW H × List MemPlace} {fuel : Nat} {v : Value} (h : DataW.trod enc Tryz.prog w base spare held fuel 27 [v] = some x) (hs : ∀ k ∈ x.1.weights Tryz.prog 27, k ≤ reachBytes) :
    ∃ A n c D, v = .slice A n c ∧ n = List.length D ∧ n * 32 ≤ 140737488351232 ∧ Ls It.enc 2 w w.heap.size A D := by
  rcases open_ls1 It.enc 2 Tryz.underlying27 cIt (by decide) (fun n cs y hl h => readI hl h) h with ⟨h1, h2⟩ | ⟨A, n, c, m, D, h1, h2, h3, h4, h5, E, F, h6, h7, h8⟩
  · exact ⟨none, 0, 0, [], h1, rfl, Nat.zero_le _, Ls.nil⟩
  · refine ⟨A, n, c, D, h1, h2, ?_, h5⟩
    have := hs ((E.length + F.length) * Tryz.prog.bytesOf 63) (by rw [h6]; simp [DataW.weights, Tryz.underlying27])
    rw [bIt, rB] at this
    omega
theorem each {P : Program} {ts : List TypeId} {ds : List (DataW H)} (h : (DataW.weightsEach P ts ds).all (· ≤ reachBytes) = true) {j : Nat} {t : TypeId} {d : DataW H} (ht : ts[j]? = some t) (hd : ds[j]? = some d) : ∀ k ∈ d.weights P t, k ≤ reachBytes := fun k hk => by
  have := List.all_eq_true.1 h _ (DataW.weights_mem_each ht hd k hk)
  simpa using this
end
end Go.Proofs.YtlpejbbmemhloaaGreatDoor.Fr
/- What a laid array of words gives: its block, as a row. No word of the program here. -/
namespace Go.Proofs.YtlpejbbmemhloaaGreatDoor.Hk
set_option linter.unusedVariables false
theorem cells_of_trod {H : Type} {enc : TypeId × Value → H} {P : Program} {w : World} {base fuel n : Nat} {spare : Nat → Bool} {held : Bool} {T e : TypeId} {cs : List Value} {l : List (BitVec 32)} {p : List MemPlace}
    (hT : P.underlying T = some (.array n e)) (he : P.underlying e = some (.int .u32)) (hc : P.cellsOf e = 1) (hcT : P.cellsOf T = n)
    (h : DataW.trod enc P w base spare held fuel T cs = some (.agg (l.map fun x => .lit (.int .u32 (vN x))), p)) : cs = l.map fun x => Value.int .u32 (vN x) := by
  obtain ⟨xs, m, _, hx, hlen, hn, hel⟩ := DataW.trod_array hT h
  have hx1 : (l.map fun x => (DataW.lit (.int .u32 (vN x)) : DataW H)) = xs.map (·.1) := by
    have := congrArg Prod.fst hx
    simpa using this
  have hl : l.length = n := by have := congrArg List.length hx1; simp at this; omega
  apply List.ext_getElem
  · rw [List.length_map]; omega
  intro i h1 h2
  have hi : i < n := by omega
  have hd := hel i hi
  rw [hc, Nat.mul_one, List.getElem?_eq_getElem (by omega)] at hd
  obtain ⟨k, e1, e2, _⟩ := DataW.trod_int he hd
  have e3 : (DataW.lit (.int .u32 (vN (l[i]'(by omega)))) : DataW H) = (xs[i]'(by omega)).1 := by
    have := congrArg (fun z => z[i]?) hx1
    simpa [List.getElem?_eq_getElem (show i < l.length by omega), List.getElem?_eq_getElem (show i < xs.length by omega)] using this
  rw [e2] at e3
  have hk : k = vN (l[i]'(by omega)) := by simpa using e3.symm
  have e4 : cs[i] = .int .u32 k := by
    have := congrArg (fun z => z[0]?) e1
    simpa [List.getElem?_eq_getElem h1] using this
  rw [e4, hk, List.getElem_map]
theorem row_of_laid {P : Program} {w : World} {n : String} {g : Nat} {cs : Array Value} {l : List (BitVec 32)} {ps : List MemPlace} (hg : P.globalNamed n = some g) (hv : w.var? P n = some cs) (hcs : cs.toList = l.map fun x => Value.int .u32 (vN x)) (hl : 0 < l.length)
    (hps : ∀ b off, MemPlace.cell b off ∈ ps → ∃ c t, w.heap[b]? = some (.cells c t (0, 0))) (hsub : ∀ x ∈ MemPlace.row ⟨g, 0, none⟩ cs.size, x ∈ ps) : ∃ t, Row w g t l := by
  have hsz : cs.size = l.length := by rw [← Array.length_toList, hcs, List.length_map]
  have hmem : MemPlace.cell g 0 ∈ ps := hsub _ (by
    unfold MemPlace.row
    rw [List.mem_map]
    exact ⟨0, by rw [List.mem_range]; omega, by simp⟩)
  obtain ⟨c, t, hc⟩ := hps g 0 hmem
  have hv' := hv
  simp only [World.var?, hg, Option.bind_some, hc, Option.some.injEq] at hv'
  subst hv'
  refine ⟨t, ?_⟩
  show w.heap[g]? = some (.cells (arr l) t (0, 0))
  rw [hc]
  congr 2
  unfold arr
  rw [← hcs, Array.toArray_toList]
end Go.Proofs.YtlpejbbmemhloaaGreatDoor.Hk
/- A heap as an argument: how it is read, how much it has; what the condition gives of the two tables of the hash. -/
namespace Go.Proofs.YtlpejbbmemhloaaGreatDoor.Fr
set_option linter.unusedVariables false
set_option linter.unusedSimpArgs false
set_option maxRecDepth 100000
open Go.Joins Go.ChangeShapes Go.WideShapes Go.RowKit Go.Deep
open Ar Nd
open Hp (Ce ecC HIn)
section
variable {H : Type} {enc : TypeId × Value → H} {w : World} {base : Nat} {spare : Nat → Bool} {held : Bool}
end
/-- the tables that are laid -/
def laid : List (String × DataW Unit) := [("unicode/utf8.acceptRanges", Rows.laid_unicode_utf8_acceptRanges), ("cambium/hash.firstState", Rows.laid_cambium_hash_firstState), ("cambium/hash.roundWords", Rows.laid_cambium_hash_roundWords), ("unicode/utf8.first", Rows.laid_unicode_utf8_first)]
theorem gF : Tryz.prog.globalNamed "cambium/hash.firstState" = some 0 := by kernel_rfl
theorem gK : Tryz.prog.globalNamed "cambium/hash.roundWords" = some 1 := by kernel_rfl
theorem tF : (Tryz.prog.globals[0]?).map (·.type) = some 107 := by kernel_rfl
theorem tK : (Tryz.prog.globals[1]?).map (·.type) = some 151 := by kernel_rfl
theorem cW1 : Tryz.prog.cellsOf 22 = 1 := by kernel_rfl
theorem cS8 : Tryz.prog.cellsOf 107 = 8 := by kernel_rfl
theorem cK64 : Tryz.prog.cellsOf 151 = 64 := by kernel_rfl
theorem dF : (Rows.laid_cambium_hash_firstState : DataW Unit) = .agg (Hk.first.list.map fun x => .lit (.int .u32 (Hk.vN x))) := by kernel_rfl
theorem dK : (Rows.laid_cambium_hash_roundWords : DataW Unit) = .agg (Hk.kc.map fun x => .lit (.int .u32 (Hk.vN x))) := by kernel_rfl
/-- what the condition gives the walk: the two tables' blocks -/
theorem of_laid {W : World} (h : laidMetH Tryz.prog laid W) : ∃ tS tW, Hk.Row W 1 tW Hk.kc ∧ Hk.Row W 0 tS Hk.first.list := by
  rw [MakeChecks.laidMetH_plain _ _ _ (by kernel_rfl)] at h
  obtain ⟨ps, ⟨ga, ta, csa, fa, pa, qa, hga, hta, hva, hda, ⟨g0, t0, cs0, f0, p0, q0, hg0, ht0, hv0, hd0, ⟨g1, t1, cs1, f1, p1, q1, hg1, ht1, hv1, hd1, ⟨gb, tb, csb, fb, pb, qb, hgb, htb, hvb, hdb, hrb, hqb⟩, hq1⟩, hq0⟩, hqa⟩, _, hall⟩ := h
  obtain rfl := Option.some.inj (gF.symm.trans hg0)
  obtain rfl := Option.some.inj (gK.symm.trans hg1)
  obtain rfl := Option.some.inj (tF.symm.trans ht0)
  obtain rfl := Option.some.inj (tK.symm.trans ht1)
  rw [dF] at hd0
  rw [dK] at hd1
  have e0 := Hk.cells_of_trod Tryz.underlying107 Tryz.underlying22 cW1 cS8 hd0
  have e1 := Hk.cells_of_trod Tryz.underlying151 Tryz.underlying22 cW1 cK64 hd1
  have hps : ∀ b off, MemPlace.cell b off ∈ ps → ∃ c t, W.heap[b]? = some (.cells c t (0, 0)) := fun b off hm => (hall b off hm).1
  obtain ⟨tS, r0⟩ := Hk.row_of_laid hg0 hv0 e0 (by decide) hps (fun x hx => by rw [hqa, hq0]; simp [hx])
  obtain ⟨tW, r1⟩ := Hk.row_of_laid hg1 hv1 e1 (by decide) hps (fun x hx => by rw [hqa, hq0, hq1]; simp [hx])
  exact ⟨tS, tW, r1, r0⟩
/-- the tables, as the contracts ask for them -/
theorem kc_of {W : World} (h : laidMetH Tryz.prog laid W) : ∃ tK tS, Hp.Kc tK tS W.heap.size W := by
  obtain ⟨tS, tW, r1, r0⟩ := of_laid h
  exact ⟨tW, tS, r1, r0, Hk.Row.lt r1, Hk.Row.lt r0⟩
end Go.Proofs.YtlpejbbmemhloaaGreatDoor.Fr
