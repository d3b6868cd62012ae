/- How arguments are opened: slices whose elements are structs of plain cells; how the bound of a statement reaches their lengths. -/
import Derived.Test.YtjkapmghifglcaaDoorLs
import Derived.Test.YtjkapmghifglcaaDoorDwB
import Derived.Test.YtjkapmghifglcaaDoorMgA
import Derived.Deep.Slices
import Derived.ChangeArms
import Derived.SizedLaws
import Derived.Lib.SmallJoins
namespace Go.Proofs.YtjkapmghifglcaaDoor.Fr
set_option linter.unusedVariables false
open Go.ChangeShapes Go.WideShapes Go.RowKit Go.Deep
open Ar
theorem list_of {α : Type} {p : Nat → α → Prop} : ∀ n : Nat, (∀ i, i < n → ∃ x, p i x) → ∃ D : List α, D.length = n ∧ ∀ i x, D[i]? = some x → p i x
  | 0, _ => ⟨[], rfl, fun i x h => by simp at h⟩
  | n + 1, h => by
    obtain ⟨D, h1, h2⟩ := list_of n fun i hi => h i (by omega)
    obtain ⟨y, hy⟩ := h n (by omega)
    refine ⟨D ++ [y], by simp [h1], fun i x hx => ?_⟩
    rcases Nat.lt_or_ge i n with hlt | hge
    · rw [List.getElem?_append_left (by omega)] at hx; exact h2 i x hx
    · rw [List.getElem?_append_right (by omega), h1] at hx
      have : i = n := by
        rcases Nat.lt_or_ge n i with h3 | h3
        · rw [List.getElem?_eq_none (by simp; omega)] at hx; cases hx
        · omega
      subst this
      simp at hx; subst hx; exact hy
section
variable {H : Type} {enc : TypeId × Value → H} {P : Program} {w : World} {base : Nat} {spare : Nat → Bool} {held : Bool}
theorem open_ls {α : Type} (en : α → List Value) (k : Nat) {t e : TypeId} {fuel : Nat} {v : Value} {x : DataW H × List MemPlace} (ht : P.underlying t = some (.slice e)) (hk : P.cellsOf e = k) (hk0 : 0 < k)
    (hr : ∀ n cs y, cs.length = k → DataW.trod enc P w base spare held n e cs = some y → ∃ x : α, cs = en x) (hv : v.cells = #[v]) (h : DataW.trod enc P w base spare held fuel t v.cells.toList = some x) :
    (v = .slice none 0 0 ∧ x.1 = .nil) ∨ ∃ A n c m D, v = .slice A n c ∧ n = List.length D ∧ n ≤ c ∧ c ≤ maxLen ∧ Ls en k w w.heap.size A D ∧ ∃ E F, x.1 = .slice E F ∧ E.length = n ∧ E.length + F.length = m := by
  rw [hv] at h
  rcases open_slice ht h with ⟨h1, h2⟩ | ⟨a, len, cap, m, n, D, Pl, hcs, hb, hl, hm, hmm, hx, hi⟩
  · left; simp at h1; exact ⟨h1, by rw [h2]⟩
  · right
    have hlm : len ≤ m := by rw [hmm]; split <;> omega
    simp at hcs
    rw [hk] at hi
    obtain ⟨L, hL1, hL2⟩ := list_of (α := α) (p := fun i x => ∃ b o, (some a : Option Addr) = some ⟨b, o, none⟩ ∧ b < w.heap.size ∧ w.rangeAt b (o + i * k) (en x)) len fun i hil => by
      have hspot : a.spot = none := by
        obtain ⟨cs', h1, h2⟩ := hi 0 (by omega)
        obtain ⟨_, hlen, hcell⟩ := World.cells?_some h1
        have hc0 := (hcell 0 hk0).trans (List.getElem?_eq_getElem (by omega))
        rw [add_add, Nat.zero_mul] at hc0
        have := World.cell?_spot hc0
        simpa [Addr.add] using this
      obtain ⟨cs', h1, h2⟩ := hi i (by omega)
      obtain ⟨_, hlen, hcell⟩ := World.cells?_some h1
      obtain ⟨x, rfl⟩ := hr _ _ _ hlen h2
      have hc0 := (hcell 0 hk0).trans (List.getElem?_eq_getElem (by omega))
      rw [add_add] at hc0
      obtain ⟨b, o, spot⟩ := a
      simp only at hspot
      subst hspot
      refine ⟨x, b, o, rfl, ?_, fun j u hu => ?_⟩
      · have := World.block_lt_of_cell? w _ hc0
        rw [Ar.add_plain] at this
        exact this
      · have hj : j < k := by rw [← hlen]; exact (List.getElem?_eq_some_iff.1 hu).1
        have := hcell j hj
        rw [add_add, Ar.add_plain, ← Nat.add_assoc, hu] at this
        exact this
    refine ⟨some a, len, cap, m, L, hcs, hL1.symm, hl, hm, hL2, (List.range len).map D, (List.range (m - len)).map fun j => D (len + j), by rw [hx], by simp, ?_⟩
    simp
    omega
end
end Go.Proofs.YtjkapmghifglcaaDoor.Fr
/- A device, blocks, booleans as arguments: how they are read, and how many they are. -/
namespace Go.Proofs.YtjkapmghifglcaaDoor.Fr
set_option linter.unusedVariables false
set_option maxRecDepth 100000
open Go.Joins Go.ChangeShapes Go.WideShapes Go.RowKit Go.Deep
open Ar
section
variable {H : Type} {enc : TypeId × Value → H} {w : World} {base : Nat} {spare : Nat → Bool} {held : Bool}
theorem cU : Tryd.prog.cellsOf 22 = 1 := by kernel_rfl
theorem cS : Tryd.prog.cellsOf 9 = 1 := by kernel_rfl
theorem cB : Tryd.prog.cellsOf 41 = 2 := by kernel_rfl
theorem cO : Tryd.prog.cellsOf 4 = 1 := by kernel_rfl
theorem cI : Tryd.prog.cellsOf 3 = 1 := by kernel_rfl
theorem cL : Tryd.prog.cellsOf 23 = 1 := by kernel_rfl
theorem cD : Tryd.prog.cellsOf 25 = 5 := by kernel_rfl
theorem bB : Tryd.prog.bytesOf 41 = 24 := by kernel_rfl
theorem bO : Tryd.prog.bytesOf 4 = 1 := by kernel_rfl
theorem rB : reachBytes = 140737488351232 := by kernel_rfl
theorem wf_u32 {z : Int} (h : (Lit.int .u32 z).wf = true) : ∃ n : Nat, z = n ∧ n ≤ 4294967295 := by
  have h1 : IntKind.u32.min ≤ z ∧ z ≤ IntKind.u32.max := by simpa [Lit.wf] using h
  have h2 : IntKind.u32.min = 0 := rfl
  have h3 : IntKind.u32.max = 4294967295 := rfl
  exact ⟨z.toNat, by omega, by omega⟩
theorem wf_i64 {z : Int} (h : (Lit.int .i64 z).wf = true) : -9223372036854775808 ≤ z ∧ z ≤ 9223372036854775807 := by
  have h1 : IntKind.i64.min ≤ z ∧ z ≤ IntKind.i64.max := by simpa [Lit.wf] using h
  have h2 : IntKind.i64.min = -9223372036854775808 := rfl
  have h3 : IntKind.i64.max = 9223372036854775807 := rfl
  omega
theorem readB {n : Nat} {cs : List Value} {y : DataW H × List MemPlace} (hl : cs.length = 2) (h : DataW.trod enc Tryd.prog w base spare held n 41 cs = some y) : ∃ x : Dv.Bk, cs = Sb.enc x := by
  obtain ⟨xs, m, _, _, _, hxl, hf⟩ := DataW.trod_struct Tryd.underlying41 h
  have g0 : DataW.trod enc Tryd.prog w base spare held m 22 ((cs.drop 0).take (Tryd.prog.cellsOf 22)) = xs[0]? := hf 0 _ rfl
  have g1 : DataW.trod enc Tryd.prog w base spare held m 9 ((cs.drop 1).take (Tryd.prog.cellsOf 9)) = xs[1]? := hf 1 _ rfl
  rw [cU] at g0
  rw [cS] at g1
  match cs, hl with
  | [v0, v1], _ =>
    match xs, hxl with
    | [x0, x1], _ =>
      obtain ⟨z, e0, _, wz⟩ := DataW.trod_int Tryd.underlying22 (g0.trans rfl : _ = some x0)
      obtain ⟨s1, e1, _⟩ := DataW.trod_string Tryd.underlying9 (g1.trans rfl : _ = some x1)
      obtain ⟨k, rfl, _⟩ := wf_u32 wz
      simp at e0 e1
      exact ⟨⟨k, s1⟩, by rw [e0, e1]; rfl⟩
theorem open_ls1 {α : Type} (en : α → List Value) (k : Nat) {t e : TypeId} {fuel : Nat} {v : Value} {x : DataW H × List MemPlace} (ht : Tryd.prog.underlying t = some (.slice e)) (hk : Tryd.prog.cellsOf e = k) (hk0 : 0 < k)
    (hr : ∀ n cs y, cs.length = k → DataW.trod enc Tryd.prog w base spare held n e cs = some y → ∃ x : α, cs = en x) (h : DataW.trod enc Tryd.prog w base spare held fuel t [v] = some x) :
    (v = .slice none 0 0 ∧ x.1 = .nil) ∨ ∃ A n c m D, v = .slice A n c ∧ n = List.length D ∧ n ≤ c ∧ c ≤ maxLen ∧ Ls en k w w.heap.size A D ∧ ∃ E F, x.1 = .slice E F ∧ E.length = n ∧ E.length + F.length = m := by
  have hv : ∃ u : Value, v = u ∧ u.cells = #[u] := by
    rcases open_slice ht h with ⟨h1, _⟩ | ⟨a, len, cap, m, n, D, Pl, h1, _⟩
    · simp at h1; exact ⟨_, h1, rfl⟩
    · simp at h1; exact ⟨_, h1, rfl⟩
  obtain ⟨u, rfl, hc⟩ := hv
  exact open_ls en k ht hk hk0 hr hc (by rw [hc]; exact h)
theorem slB_of {x : DataW H × List MemPlace} {fuel : Nat} {v : Value} (h : DataW.trod enc Tryd.prog w base spare held fuel 23 [v] = some x) (hs : ∀ k ∈ x.1.weights Tryd.prog 23, k ≤ reachBytes) :
    ∃ A n c D, v = .slice A n c ∧ Dv.SlB w A n c D ∧ n ≤ 5864062014634 := by
  rcases open_ls1 Sb.enc 2 Tryd.underlying23 cB (by decide) (fun n cs y hl h => readB hl h) h with ⟨h1, h2⟩ | ⟨A, n, c, m, D, h1, h2, h3, h4, h5, E, F, h6, h7, h8⟩
  · exact ⟨none, 0, 0, [], h1, ⟨rfl, Nat.le_refl _, Nat.zero_le _, 0, Nat.zero_le _, Ls.nil⟩, Nat.zero_le _⟩
  · refine ⟨A, n, c, D, h1, ⟨h2, h3, h4, _, Nat.le_refl _, h5⟩, ?_⟩
    have := hs ((E.length + F.length) * Tryd.prog.bytesOf 41) (by rw [h6]; simp [DataW.weights, Tryd.underlying23])
    rw [bB, rB] at this
    omega
theorem argD {r : Reach} {b0 : Nat} {v : Value} {d : DataW H} {p : List MemPlace} (hv : Value.okWide Tryd.prog w r b0 25 v) (h : DataW.Trod enc Tryd.prog w base spare held 25 v d p) (hs : ∀ k ∈ d.weights Tryd.prog 25, k ≤ reachBytes) :
    ∃ (x : Dv.De) (A : Option Addr) (n c : Nat) (A' : Option Addr) (m c' : Nat), v = .agg #[.int .u32 x.N, .slice A n c, .slice A' m c', .bool x.dn, .int .i64 x.fu] ∧ Dv.SlB w A n c x.D ∧ Dv.SlB w A' m c' x.W ∧ n ≤ 5864062014634 ∧ m ≤ 5864062014634 ∧ -9223372036854775808 ≤ x.fu ∧ x.fu ≤ 9223372036854775807 := by
  obtain ⟨cs, rfl, hsz⟩ := okWide_struct Tryd.underlying25 hv
  obtain ⟨l⟩ := cs
  obtain ⟨fuel, hf⟩ := h
  have hl : l.length = 5 := hsz.trans cD
  have hf : DataW.trod enc Tryd.prog w base spare held fuel 25 l = some (d, p) := by simpa [Value.cells] using hf
  obtain ⟨xs, m, _, hx, _, hxl, hq⟩ := DataW.trod_struct Tryd.underlying25 hf
  have g0 : DataW.trod enc Tryd.prog w base spare held m 22 ((l.drop 0).take (Tryd.prog.cellsOf 22)) = xs[0]? := hq 0 _ rfl
  have g1 : DataW.trod enc Tryd.prog w base spare held m 23 ((l.drop 1).take (Tryd.prog.cellsOf 23)) = xs[1]? := hq 1 _ rfl
  have g2 : DataW.trod enc Tryd.prog w base spare held m 23 ((l.drop 2).take (Tryd.prog.cellsOf 23)) = xs[2]? := hq 2 _ rfl
  have g3 : DataW.trod enc Tryd.prog w base spare held m 4 ((l.drop 3).take (Tryd.prog.cellsOf 4)) = xs[3]? := hq 3 _ rfl
  have g4 : DataW.trod enc Tryd.prog w base spare held m 3 ((l.drop 4).take (Tryd.prog.cellsOf 3)) = xs[4]? := hq 4 _ rfl
  rw [cU] at g0
  rw [cL] at g1 g2
  rw [cO] at g3
  rw [cI] at g4
  match l, hl with
  | [v0, v1, v2, v3, v4], _ =>
    match xs, hxl with
    | [x0, x1, x2, x3, x4], _ =>
      obtain ⟨z, e0, _, wz⟩ := DataW.trod_int Tryd.underlying22 (g0.trans rfl : _ = some x0)
      obtain ⟨q, e3, _⟩ := DataW.trod_bool Tryd.underlying4 (g3.trans rfl : _ = some x3)
      obtain ⟨f, e4, _, wf⟩ := DataW.trod_int Tryd.underlying3 (g4.trans rfl : _ = some x4)
      obtain ⟨k, rfl, _⟩ := wf_u32 wz
      have hd : d = .agg [x0.1, x1.1, x2.1, x3.1, x4.1] := congrArg Prod.fst hx
      have hw : ∀ (j : Nat) (t : TypeId) (y : DataW H), ([22, 23, 23, 4, 3] : List TypeId)[j]? = some t → [x0.1, x1.1, x2.1, x3.1, x4.1][j]? = some y → ∀ k ∈ y.weights Tryd.prog t, k ≤ reachBytes := fun j t y ht hy k hk => by
        refine hs k ?_
        rw [hd]
        have := DataW.weights_mem_each (P := Tryd.prog) ht hy k hk
        simpa [DataW.weights, Tryd.underlying25] using this
      obtain ⟨A, n, c, D, k1, k2, k3⟩ := slB_of (x := x1) (g1.trans rfl) (hw 1 _ _ rfl rfl)
      obtain ⟨A', n', c', D', l1, l2, l3⟩ := slB_of (x := x2) (g2.trans rfl) (hw 2 _ _ rfl rfl)
      have k1 : v1 = .slice A n c := by simpa using k1
      have l1 : v2 = .slice A' n' c' := by simpa using l1
      simp at e0 e3 e4
      have hi := wf_i64 wf
      exact ⟨⟨k, D, D', q, f⟩, A, n, c, A', n', c', by rw [e0, e3, e4, k1, l1], k2, l2, k3, l3, hi.1, hi.2⟩
/-- blocks -/
theorem argB {v : Value} {d : DataW H} {p : List MemPlace} (h : DataW.Trod enc Tryd.prog w base spare held 23 v d p) (hv : v.cells = #[v]) (hs : ∀ k ∈ d.weights Tryd.prog 23, k ≤ reachBytes) :
    ∃ A n c D, v = .slice A n c ∧ Dv.SlB w A n c D ∧ n ≤ 5864062014634 := by
  obtain ⟨fuel, hf⟩ := h
  rw [hv] at hf
  exact slB_of (x := (d, p)) hf hs
theorem readO {n : Nat} {cs : List Value} {y : DataW H × List MemPlace} (hl : cs.length = 1) (h : DataW.trod enc Tryd.prog w base spare held n 4 cs = some y) : ∃ x : Bool, cs = [.bool x] := by
  obtain ⟨b, e, _⟩ := DataW.trod_bool Tryd.underlying4 h
  exact ⟨b, e⟩
/-- booleans -/
theorem argK {v : Value} {d : DataW H} {p : List MemPlace} (h : DataW.Trod enc Tryd.prog w base spare held 37 v d p) (hv : v.cells = #[v]) :
    ∃ A n c K, v = .slice A n c ∧ Dv.SlK w A n K := by
  obtain ⟨fuel, hf⟩ := h
  rw [hv] at hf
  rcases open_ls1 (fun b : Bool => [.bool b]) 1 Tryd.underlying37 cO (by decide) (fun n cs y hl h => readO hl h) hf with ⟨h1, h2⟩ | ⟨A, n, c, m, D, h1, h2, h3, h4, h5, _⟩
  · exact ⟨none, 0, 0, [], h1, rfl, fun j hj => absurd hj (Nat.not_lt_zero _)⟩
  · refine ⟨A, n, c, D, h1, h2, fun j hj => ?_⟩
    obtain ⟨b, o, e, hb, hr⟩ := h5 j D[j] (List.getElem?_eq_getElem hj)
    exact ⟨b, o, e, hb, by have := hr 0 _ rfl; simpa using this⟩
theorem each {P : Program} {ts : List TypeId} {ds : List (DataW H)} (h : (DataW.weightsEach P ts ds).all (· ≤ reachBytes) = true) {j : Nat} {t : TypeId} {d : DataW H} (ht : ts[j]? = some t) (hd : ds[j]? = some d) : ∀ k ∈ d.weights P t, k ≤ reachBytes := fun k hk => by
  have := List.all_eq_true.1 h _ (DataW.weights_mem_each ht hd k hk)
  simpa using this
end
end Go.Proofs.YtjkapmghifglcaaDoor.Fr
/- Items as arguments, beside devices and booleans. -/
namespace Go.Proofs.YtjkapmghifglcaaDoor.Fr
set_option linter.unusedVariables false
set_option maxRecDepth 100000
open Go.Joins Go.ChangeShapes Go.WideShapes Go.RowKit Go.Deep
open Ar
section
variable {H : Type} {enc : TypeId × Value → H} {w : World} {base : Nat} {spare : Nat → Bool} {held : Bool}
theorem readI {n : Nat} {cs : List Value} {y : DataW H × List MemPlace} (hl : cs.length = 2) (h : DataW.trod enc Tryd.prog w base spare held n 52 cs = some y) : ∃ x : It.Itm, cs = It.enc x := by
  obtain ⟨xs, m, _, _, _, hxl, hf⟩ := DataW.trod_struct Tryd.underlying52 h
  have g0 : DataW.trod enc Tryd.prog w base spare held m 9 ((cs.drop 0).take (Tryd.prog.cellsOf 9)) = xs[0]? := hf 0 _ rfl
  have g1 : DataW.trod enc Tryd.prog w base spare held m 9 ((cs.drop 1).take (Tryd.prog.cellsOf 9)) = xs[1]? := hf 1 _ rfl
  rw [cS] at g0 g1
  match cs, hl with
  | [v0, v1], _ =>
    match xs, hxl with
    | [x0, x1], _ =>
      obtain ⟨s0, e0, _⟩ := DataW.trod_string Tryd.underlying9 (g0.trans rfl : _ = some x0)
      obtain ⟨s1, e1, _⟩ := DataW.trod_string Tryd.underlying9 (g1.trans rfl : _ = some x1)
      simp at e0 e1
      exact ⟨⟨s0, s1⟩, by rw [e0, e1]; rfl⟩
theorem cIt : Tryd.prog.cellsOf 52 = 2 := by kernel_rfl
theorem bIt : Tryd.prog.bytesOf 52 = 32 := by kernel_rfl
/-- an argument that is a list of items -/
theorem argI {v : Value} {d : DataW H} {p : List MemPlace} (h : DataW.Trod enc Tryd.prog w base spare held 49 v d p) (hv : v.cells = #[v]) (hs : ∀ k ∈ d.weights Tryd.prog 49, k ≤ reachBytes) :
    ∃ A n c D, v = .slice A n c ∧ n = List.length D ∧ n ≤ 281474976710656 ∧ Ls It.enc 2 w w.heap.size A D := by
  obtain ⟨fuel, hf⟩ := h
  rcases open_ls It.enc 2 Tryd.underlying49 cIt (by decide) (fun n cs y hl h => readI hl h) hv hf with ⟨h1, h2⟩ | ⟨A, n, c, m, D, h1, h2, h3, h4, h5, E, F, h6, h7, h8⟩
  · exact ⟨none, 0, 0, [], h1, rfl, Nat.zero_le _, Ls.nil⟩
  · refine ⟨A, n, c, D, h1, h2, ?_, h5⟩
    have h6' : d = .slice E F := h6
    have := hs ((E.length + F.length) * Tryd.prog.bytesOf 52) (by rw [h6']; simp [DataW.weights, Tryd.underlying49])
    rw [bIt, rB] at this
    omega
end
end Go.Proofs.YtjkapmghifglcaaDoor.Fr
