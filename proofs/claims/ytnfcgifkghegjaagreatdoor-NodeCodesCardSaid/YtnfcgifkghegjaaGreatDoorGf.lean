/- How arguments are opened: slices whose elements are structs of plain cells; how the bound of a statement reaches their lengths. -/
import Derived.Test.YtnfcgifkghegjaaGreatDoorLs
import Derived.Test.YtnfcgifkghegjaaGreatDoorNdC
import Derived.Deep.Slices
import Derived.ChangeArms
import Derived.SizedLaws
import Derived.Lib.SmallJoins
namespace Go.Proofs.YtnfcgifkghegjaaGreatDoor.Fr
set_option linter.unusedVariables false
open Go.ChangeShapes Go.WideShapes Go.RowKit Go.Deep
open Ar
theorem list_of {α : Type} {p : Nat → α → Prop} : ∀ n : Nat, (∀ i, i < n → ∃ x, p i x) → ∃ D : List α, D.length = n ∧ ∀ i x, D[i]? = some x → p i x
  | 0, _ => ⟨[], rfl, fun i x h => by simp at h⟩
  | n + 1, h => by
    obtain ⟨D, h1, h2⟩ := list_of n fun i hi => h i (by omega)
    obtain ⟨y, hy⟩ := h n (by omega)
    refine ⟨D ++ [y], by simp [h1], fun i x hx => ?_⟩
    rcases Nat.lt_or_ge i n with hlt | hge
    · rw [List.getElem?_append_left (by omega)] at hx; exact h2 i x hx
    · rw [List.getElem?_append_right (by omega), h1] at hx
      have : i = n := by
        rcases Nat.lt_or_ge n i with h3 | h3
        · rw [List.getElem?_eq_none (by simp; omega)] at hx; cases hx
        · omega
      subst this
      simp at hx; subst hx; exact hy
section
variable {H : Type} {enc : TypeId × Value → H} {P : Program} {w : World} {base : Nat} {spare : Nat → Bool} {held : Bool}
theorem open_ls {α : Type} (en : α → List Value) (k : Nat) {t e : TypeId} {fuel : Nat} {v : Value} {x : DataW H × List MemPlace} (ht : P.underlying t = some (.slice e)) (hk : P.cellsOf e = k) (hk0 : 0 < k)
    (hr : ∀ n cs y, cs.length = k → DataW.trod enc P w base spare held n e cs = some y → ∃ x : α, cs = en x) (hv : v.cells = #[v]) (h : DataW.trod enc P w base spare held fuel t v.cells.toList = some x) :
    (v = .slice none 0 0 ∧ x.1 = .nil) ∨ ∃ A n c m D, v = .slice A n c ∧ n = List.length D ∧ n ≤ c ∧ c ≤ maxLen ∧ Ls en k w w.heap.size A D ∧ ∃ E F, x.1 = .slice E F ∧ E.length = n ∧ E.length + F.length = m := by
  rw [hv] at h
  rcases open_slice ht h with ⟨h1, h2⟩ | ⟨a, len, cap, m, n, D, Pl, hcs, hb, hl, hm, hmm, hx, hi⟩
  · left; simp at h1; exact ⟨h1, by rw [h2]⟩
  · right
    have hlm : len ≤ m := by rw [hmm]; split <;> omega
    simp at hcs
    rw [hk] at hi
    obtain ⟨L, hL1, hL2⟩ := list_of (α := α) (p := fun i x => ∃ b o, (some a : Option Addr) = some ⟨b, o, none⟩ ∧ b < w.heap.size ∧ w.rangeAt b (o + i * k) (en x)) len fun i hil => by
      have hspot : a.spot = none := by
        obtain ⟨cs', h1, h2⟩ := hi 0 (by omega)
        obtain ⟨_, hlen, hcell⟩ := World.cells?_some h1
        have hc0 := (hcell 0 hk0).trans (List.getElem?_eq_getElem (by omega))
        rw [add_add, Nat.zero_mul] at hc0
        have := World.cell?_spot hc0
        simpa [Addr.add] using this
      obtain ⟨cs', h1, h2⟩ := hi i (by omega)
      obtain ⟨_, hlen, hcell⟩ := World.cells?_some h1
      obtain ⟨x, rfl⟩ := hr _ _ _ hlen h2
      have hc0 := (hcell 0 hk0).trans (List.getElem?_eq_getElem (by omega))
      rw [add_add] at hc0
      obtain ⟨b, o, spot⟩ := a
      simp only at hspot
      subst hspot
      refine ⟨x, b, o, rfl, ?_, fun j u hu => ?_⟩
      · have := World.block_lt_of_cell? w _ hc0
        rw [Ar.add_plain] at this
        exact this
      · have hj : j < k := by rw [← hlen]; exact (List.getElem?_eq_some_iff.1 hu).1
        have := hcell j hj
        rw [add_add, Ar.add_plain, ← Nat.add_assoc, hu] at this
        exact this
    refine ⟨some a, len, cap, m, L, hcs, hL1.symm, hl, hm, hL2, (List.range len).map D, (List.range (m - len)).map fun j => D (len + j), by rw [hx], by simp, ?_⟩
    simp
    omega
end
end Go.Proofs.YtnfcgifkghegjaaGreatDoor.Fr
/- A node as an argument: how it is read, how much it has. -/
namespace Go.Proofs.YtnfcgifkghegjaaGreatDoor.Fr
set_option linter.unusedVariables false
set_option linter.unusedSimpArgs false
set_option maxRecDepth 100000
open Go.Joins Go.ChangeShapes Go.WideShapes Go.RowKit Go.Deep
open Ar
open Nd (Kd Vo ecK ecV NdAt Wd fix_of)
open Pk (u8s u8s_length)
section
variable {H : Type} {enc : TypeId × Value → H} {w : World} {base : Nat} {spare : Nat → Bool} {held : Bool}
theorem cU : Tryz.prog.cellsOf 39 = 1 := by kernel_rfl
theorem cS : Tryz.prog.cellsOf 9 = 1 := by kernel_rfl
theorem cB8 : Tryz.prog.cellsOf 5 = 1 := by kernel_rfl
theorem cU64 : Tryz.prog.cellsOf 57 = 1 := by kernel_rfl
theorem cVK : Tryz.prog.cellsOf 56 = 1 := by kernel_rfl
theorem cNK : Tryz.prog.cellsOf 22 = 1 := by kernel_rfl
theorem cArr : Tryz.prog.cellsOf 53 = 32 := by kernel_rfl
theorem cIt : Tryz.prog.cellsOf 61 = 2 := by kernel_rfl
theorem cKd : Tryz.prog.cellsOf 55 = 34 := by kernel_rfl
theorem cVo : Tryz.prog.cellsOf 59 = 37 := by kernel_rfl
theorem cLI : Tryz.prog.cellsOf 23 = 1 := by kernel_rfl
theorem cLK : Tryz.prog.cellsOf 24 = 1 := by kernel_rfl
theorem cLV : Tryz.prog.cellsOf 25 = 1 := by kernel_rfl
theorem cNd : Tryz.prog.cellsOf 27 = 4 := by kernel_rfl
theorem bIt : Tryz.prog.bytesOf 61 = 32 := by kernel_rfl
theorem bKd : Tryz.prog.bytesOf 55 = 56 := by kernel_rfl
theorem bVo : Tryz.prog.bytesOf 59 = 88 := by kernel_rfl
theorem rB : reachBytes = 140737488351232 := by kernel_rfl
theorem wf_u32 {z : Int} (h : (Lit.int .u32 z).wf = true) : ∃ n : Nat, z = n ∧ n ≤ 4294967295 := by
  have h1 : IntKind.u32.min ≤ z ∧ z ≤ IntKind.u32.max := by simpa [Lit.wf] using h
  have h2 : IntKind.u32.min = 0 := rfl
  have h3 : IntKind.u32.max = 4294967295 := rfl
  exact ⟨z.toNat, by omega, by omega⟩
theorem wf_i64 {z : Int} (h : (Lit.int .i64 z).wf = true) : -9223372036854775808 ≤ z ∧ z ≤ 9223372036854775807 := by
  have h1 : IntKind.i64.min ≤ z ∧ z ≤ IntKind.i64.max := by simpa [Lit.wf] using h
  have h2 : IntKind.i64.min = -9223372036854775808 := rfl
  have h3 : IntKind.i64.max = 9223372036854775807 := rfl
  omega
theorem wf_u8 {z : Int} (h : (Lit.int .u8 z).wf = true) : ∃ n : Nat, z = n ∧ n < 256 := by
  have h1 : IntKind.u8.min ≤ z ∧ z ≤ IntKind.u8.max := by simpa [Lit.wf] using h
  have h2 : IntKind.u8.min = 0 := rfl
  have h3 : IntKind.u8.max = 255 := rfl
  exact ⟨z.toNat, by omega, by omega⟩
theorem wf_u64 {z : Int} (h : (Lit.int .u64 z).wf = true) : ∃ n : Nat, z = n ∧ n < 18446744073709551616 := by
  have h1 : IntKind.u64.min ≤ z ∧ z ≤ IntKind.u64.max := by simpa [Lit.wf] using h
  have h2 : IntKind.u64.min = 0 := rfl
  have h3 : IntKind.u64.max = 18446744073709551615 := rfl
  exact ⟨z.toNat, by omega, by omega⟩
theorem readI {n : Nat} {cs : List Value} {y : DataW H × List MemPlace} (hl : cs.length = 2) (h : DataW.trod enc Tryz.prog w base spare held n 61 cs = some y) : ∃ x : It.Itm, cs = It.enc x := by
  obtain ⟨xs, m, _, _, _, hxl, hf⟩ := DataW.trod_struct Tryz.underlying61 h
  have g0 : DataW.trod enc Tryz.prog w base spare held m 9 ((cs.drop 0).take (Tryz.prog.cellsOf 9)) = xs[0]? := hf 0 _ rfl
  have g1 : DataW.trod enc Tryz.prog w base spare held m 9 ((cs.drop 1).take (Tryz.prog.cellsOf 9)) = xs[1]? := hf 1 _ rfl
  rw [cS] at g0 g1
  match cs, hl with
  | [v0, v1], _ =>
    match xs, hxl with
    | [x0, x1], _ =>
      obtain ⟨s0, e0, _⟩ := DataW.trod_string Tryz.underlying9 (g0.trans rfl : _ = some x0)
      obtain ⟨s1, e1, _⟩ := DataW.trod_string Tryz.underlying9 (g1.trans rfl : _ = some x1)
      simp at e0 e1
      exact ⟨⟨s0, s1⟩, by rw [e0, e1]; rfl⟩
theorem readH {n : Nat} {cs : List Value} {y : DataW H × List MemPlace} (hl : cs.length = 32) (h : DataW.trod enc Tryz.prog w base spare held n 53 cs = some y) : ∃ l : List UInt8, l.length = 32 ∧ cs = u8s l := by
  obtain ⟨xs, m, _, hx, hlen, hn, hel⟩ := DataW.trod_array Tryz.underlying53 h
  have each : ∀ i, i < 32 → ∃ b : UInt8, cs[i]? = some (.int .u8 (b.toNat : Int)) := by
    intro i hi
    have hd := hel i hi
    rw [cB8, Nat.mul_one, List.getElem?_eq_getElem (by omega)] at hd
    obtain ⟨k, e1, e2, e3⟩ := DataW.trod_int Tryz.underlying5 hd
    obtain ⟨q, rfl, hq⟩ := wf_u8 e3
    refine ⟨UInt8.ofNat q, ?_⟩
    have := congrArg (fun z => z[0]?) e1
    rw [UInt8.toNat_ofNat', show q % 2 ^ 8 = q by omega]
    simpa using this
  obtain ⟨L, hL1, hL2⟩ := list_of (α := UInt8) (p := fun i b => cs[i]? = some (.int .u8 (b.toNat : Int))) 32 each
  refine ⟨L, hL1, ?_⟩
  apply List.ext_getElem?
  intro i
  by_cases hi : i < 32
  · have hb := List.getElem?_eq_getElem (show i < L.length by omega)
    rw [hL2 i _ hb]
    unfold u8s
    rw [List.getElem?_map, hb]; rfl
  · rw [List.getElem?_eq_none (by omega), List.getElem?_eq_none (by rw [u8s_length]; omega)]
abbrev KdW := { x : Kd // x.n < 256 ^ 4 ∧ x.hs.length = 32 }
abbrev VoW := { x : Vo // x.kd < 256 ^ 1 ∧ x.bn < 256 ^ 8 ∧ x.rt < 256 ^ 4 ∧ x.hs.length = 32 }
theorem readK {n : Nat} {cs : List Value} {y : DataW H × List MemPlace} (hl : cs.length = 34) (h : DataW.trod enc Tryz.prog w base spare held n 55 cs = some y) : ∃ x : KdW, cs = ecK x.1 := by
  obtain ⟨xs, m, _, _, _, hxl, hf⟩ := DataW.trod_struct Tryz.underlying55 h
  have g0 : DataW.trod enc Tryz.prog w base spare held m 9 ((cs.drop 0).take (Tryz.prog.cellsOf 9)) = xs[0]? := hf 0 _ rfl
  have g1 : DataW.trod enc Tryz.prog w base spare held m 39 ((cs.drop 1).take (Tryz.prog.cellsOf 39)) = xs[1]? := hf 1 _ rfl
  have g2 : DataW.trod enc Tryz.prog w base spare held m 53 ((cs.drop 2).take (Tryz.prog.cellsOf 53)) = xs[2]? := hf 2 _ rfl
  rw [cS] at g0
  rw [cU] at g1
  rw [cArr] at g2
  match cs, hl with
  | v0 :: v1 :: rest, hl =>
    match xs, hxl with
    | [x0, x1, x2], _ =>
      obtain ⟨s0, e0, _⟩ := DataW.trod_string Tryz.underlying9 (g0.trans rfl : _ = some x0)
      obtain ⟨z1, e1, _, w1⟩ := DataW.trod_int Tryz.underlying39 (g1.trans rfl : _ = some x1)
      obtain ⟨k1, rfl, hk1⟩ := wf_u32 w1
      have hr : rest.length = 32 := by simpa using hl
      obtain ⟨l, hl32, e2⟩ := readH (by simp [hr]) (g2.trans rfl : _ = some x2)
      simp [hr] at e0 e1 e2
      rw [List.take_of_length_le (by omega)] at e2
      refine ⟨⟨⟨s0, k1, l⟩, by show k1 < 4294967296; omega, hl32⟩, ?_⟩
      show v0 :: v1 :: rest = ecK ⟨s0, k1, l⟩
      unfold ecK
      rw [fix_of hl32, e0, e1, e2]
theorem readV {n : Nat} {cs : List Value} {y : DataW H × List MemPlace} (hl : cs.length = 37) (h : DataW.trod enc Tryz.prog w base spare held n 59 cs = some y) : ∃ x : VoW, cs = ecV x.1 := by
  obtain ⟨xs, m, _, _, _, hxl, hf⟩ := DataW.trod_struct Tryz.underlying59 h
  have g0 : DataW.trod enc Tryz.prog w base spare held m 9 ((cs.drop 0).take (Tryz.prog.cellsOf 9)) = xs[0]? := hf 0 _ rfl
  have g1 : DataW.trod enc Tryz.prog w base spare held m 56 ((cs.drop 1).take (Tryz.prog.cellsOf 56)) = xs[1]? := hf 1 _ rfl
  have g2 : DataW.trod enc Tryz.prog w base spare held m 9 ((cs.drop 2).take (Tryz.prog.cellsOf 9)) = xs[2]? := hf 2 _ rfl
  have g3 : DataW.trod enc Tryz.prog w base spare held m 57 ((cs.drop 3).take (Tryz.prog.cellsOf 57)) = xs[3]? := hf 3 _ rfl
  have g4 : DataW.trod enc Tryz.prog w base spare held m 39 ((cs.drop 4).take (Tryz.prog.cellsOf 39)) = xs[4]? := hf 4 _ rfl
  have g5 : DataW.trod enc Tryz.prog w base spare held m 53 ((cs.drop 5).take (Tryz.prog.cellsOf 53)) = xs[5]? := hf 5 _ rfl
  rw [cS] at g0 g2
  rw [cVK] at g1
  rw [cU64] at g3
  rw [cU] at g4
  rw [cArr] at g5
  match cs, hl with
  | v0 :: v1 :: v2 :: v3 :: v4 :: rest, hl =>
    match xs, hxl with
    | [x0, x1, x2, x3, x4, x5], _ =>
      obtain ⟨s0, e0, _⟩ := DataW.trod_string Tryz.underlying9 (g0.trans rfl : _ = some x0)
      obtain ⟨z1, e1, _, w1⟩ := DataW.trod_int Tryz.underlying56 (g1.trans rfl : _ = some x1)
      obtain ⟨s2, e2, _⟩ := DataW.trod_string Tryz.underlying9 (g2.trans rfl : _ = some x2)
      obtain ⟨z3, e3, _, w3⟩ := DataW.trod_int Tryz.underlying57 (g3.trans rfl : _ = some x3)
      obtain ⟨z4, e4, _, w4⟩ := DataW.trod_int Tryz.underlying39 (g4.trans rfl : _ = some x4)
      obtain ⟨k1, rfl, hk1⟩ := wf_u8 w1
      obtain ⟨k3, rfl, hk3⟩ := wf_u64 w3
      obtain ⟨k4, rfl, hk4⟩ := wf_u32 w4
      have hr : rest.length = 32 := by simpa using hl
      obtain ⟨l, hl32, e5⟩ := readH (by simp [hr]) (g5.trans rfl : _ = some x5)
      simp [hr] at e0 e1 e2 e3 e4 e5
      rw [List.take_of_length_le (by omega)] at e5
      refine ⟨⟨⟨s0, k1, s2, k3, k4, l⟩, hk1, hk3, by show k4 < 4294967296; omega, hl32⟩, ?_⟩
      show v0 :: v1 :: v2 :: v3 :: v4 :: rest = ecV ⟨s0, k1, s2, k3, k4, l⟩
      unfold ecV
      rw [fix_of hl32, e0, e1, e2, e3, e4, e5]
theorem ls_map {α β : Type} {f : α → β} {en : β → List Value} {k B : Nat} {A : Option Addr} {D : List α} (h : Ls (fun x => en (f x)) k w B A D) : Ls en k w B A (D.map f) := fun i x hx => by
  rw [List.getElem?_map] at hx
  cases hd : D[i]? with
  | none => rw [hd] at hx; cases hx
  | some y =>
    rw [hd] at hx
    cases hx
    exact h i y hd
theorem open_ls1 {α : Type} (en : α → List Value) (k : Nat) {t e : TypeId} {fuel : Nat} {v : Value} {x : DataW H × List MemPlace} (ht : Tryz.prog.underlying t = some (.slice e)) (hk : Tryz.prog.cellsOf e = k) (hk0 : 0 < k)
    (hr : ∀ n cs y, cs.length = k → DataW.trod enc Tryz.prog w base spare held n e cs = some y → ∃ x : α, cs = en x) (h : DataW.trod enc Tryz.prog w base spare held fuel t [v] = some x) :
    (v = .slice none 0 0 ∧ x.1 = .nil) ∨ ∃ A n c m D, v = .slice A n c ∧ n = List.length D ∧ n ≤ c ∧ c ≤ maxLen ∧ Ls en k w w.heap.size A D ∧ ∃ E F, x.1 = .slice E F ∧ E.length = n ∧ E.length + F.length = m := by
  have hv : ∃ u : Value, v = u ∧ u.cells = #[u] := by
    rcases open_slice ht h with ⟨h1, _⟩ | ⟨a, len, cap, m, n, D, Pl, h1, _⟩
    · simp at h1; exact ⟨_, h1, rfl⟩
    · simp at h1; exact ⟨_, h1, rfl⟩
  obtain ⟨u, rfl, hc⟩ := hv
  exact open_ls en k ht hk hk0 hr hc (by rw [hc]; exact h)
theorem slI_of {x : DataW H × List MemPlace} {fuel : Nat} {v : Value} (h : DataW.trod enc Tryz.prog w base spare held fuel 23 [v] = some x) (hs : ∀ k ∈ x.1.weights Tryz.prog 23, k ≤ reachBytes) :
    ∃ A n c D, v = .slice A n c ∧ n = List.length D ∧ n * 32 ≤ 140737488351232 ∧ Ls It.enc 2 w w.heap.size A D := by
  rcases open_ls1 It.enc 2 Tryz.underlying23 cIt (by decide) (fun n cs y hl h => readI hl h) h with ⟨h1, h2⟩ | ⟨A, n, c, m, D, h1, h2, h3, h4, h5, E, F, h6, h7, h8⟩
  · exact ⟨none, 0, 0, [], h1, rfl, Nat.zero_le _, Ls.nil⟩
  · refine ⟨A, n, c, D, h1, h2, ?_, h5⟩
    have := hs ((E.length + F.length) * Tryz.prog.bytesOf 61) (by rw [h6]; simp [DataW.weights, Tryz.underlying23])
    rw [bIt, rB] at this
    omega
theorem slK_of {x : DataW H × List MemPlace} {fuel : Nat} {v : Value} (h : DataW.trod enc Tryz.prog w base spare held fuel 24 [v] = some x) (hs : ∀ k ∈ x.1.weights Tryz.prog 24, k ≤ reachBytes) :
    ∃ A n c D, v = .slice A n c ∧ n = List.length D ∧ n * 56 ≤ 140737488351232 ∧ Ls ecK 34 w w.heap.size A D ∧ ∀ x ∈ D, x.n < 256 ^ 4 ∧ x.hs.length = 32 := by
  rcases open_ls1 (fun x : KdW => ecK x.1) 34 Tryz.underlying24 cKd (by decide) (fun n cs y hl h => readK hl h) h with ⟨h1, h2⟩ | ⟨A, n, c, m, D, h1, h2, h3, h4, h5, E, F, h6, h7, h8⟩
  · exact ⟨none, 0, 0, [], h1, rfl, Nat.zero_le _, Ls.nil, fun x hx => (by cases hx)⟩
  · refine ⟨A, n, c, D.map (·.1), h1, by rw [List.length_map]; exact h2, ?_, ls_map (f := fun x : KdW => x.1) h5, fun x hx => ?_⟩
    · have := hs ((E.length + F.length) * Tryz.prog.bytesOf 55) (by rw [h6]; simp [DataW.weights, Tryz.underlying24])
      rw [bKd, rB] at this
      omega
    · obtain ⟨y, _, rfl⟩ := List.mem_map.1 hx
      exact y.2
theorem slV_of {x : DataW H × List MemPlace} {fuel : Nat} {v : Value} (h : DataW.trod enc Tryz.prog w base spare held fuel 25 [v] = some x) (hs : ∀ k ∈ x.1.weights Tryz.prog 25, k ≤ reachBytes) :
    ∃ A n c D, v = .slice A n c ∧ n = List.length D ∧ n * 88 ≤ 140737488351232 ∧ Ls ecV 37 w w.heap.size A D ∧ ∀ x ∈ D, x.kd < 256 ^ 1 ∧ x.bn < 256 ^ 8 ∧ x.rt < 256 ^ 4 ∧ x.hs.length = 32 := by
  rcases open_ls1 (fun x : VoW => ecV x.1) 37 Tryz.underlying25 cVo (by decide) (fun n cs y hl h => readV hl h) h with ⟨h1, h2⟩ | ⟨A, n, c, m, D, h1, h2, h3, h4, h5, E, F, h6, h7, h8⟩
  · exact ⟨none, 0, 0, [], h1, rfl, Nat.zero_le _, Ls.nil, fun x hx => (by cases hx)⟩
  · refine ⟨A, n, c, D.map (·.1), h1, by rw [List.length_map]; exact h2, ?_, ls_map (f := fun x : VoW => x.1) h5, fun x hx => ?_⟩
    · have := hs ((E.length + F.length) * Tryz.prog.bytesOf 59) (by rw [h6]; simp [DataW.weights, Tryz.underlying25])
      rw [bVo, rB] at this
      omega
    · obtain ⟨y, _, rfl⟩ := List.mem_map.1 hx
      exact y.2
/-- a node that came in -/
structure NdIn (w : World) (cs : Array Value) (n : Nd.Nd) : Prop where
  at_ : NdAt w cs n
  wd : Wd n
  I : n.I.length * 32 ≤ 140737488351232
  K : n.K.length * 56 ≤ 140737488351232
  V : n.V.length * 88 ≤ 140737488351232
theorem argN {r : Reach} {b0 : Nat} {v : Value} {d : DataW H} {p : List MemPlace} (hv : Value.okWide Tryz.prog w r b0 27 v) (h : DataW.Trod enc Tryz.prog w base spare held 27 v d p) (hs : ∀ k ∈ d.weights Tryz.prog 27, k ≤ reachBytes) :
    ∃ (n : Nd.Nd) (cs : Array Value), v = .agg cs ∧ NdIn w cs n := by
  obtain ⟨cs, rfl, hsz⟩ := okWide_struct Tryz.underlying27 hv
  obtain ⟨l⟩ := cs
  obtain ⟨fuel, hf⟩ := h
  have hl : l.length = 4 := hsz.trans cNd
  have hf : DataW.trod enc Tryz.prog w base spare held fuel 27 l = some (d, p) := by simpa [Value.cells] using hf
  obtain ⟨xs, m, _, hx, _, hxl, hq⟩ := DataW.trod_struct Tryz.underlying27 hf
  have g0 : DataW.trod enc Tryz.prog w base spare held m 22 ((l.drop 0).take (Tryz.prog.cellsOf 22)) = xs[0]? := hq 0 _ rfl
  have g1 : DataW.trod enc Tryz.prog w base spare held m 23 ((l.drop 1).take (Tryz.prog.cellsOf 23)) = xs[1]? := hq 1 _ rfl
  have g2 : DataW.trod enc Tryz.prog w base spare held m 24 ((l.drop 2).take (Tryz.prog.cellsOf 24)) = xs[2]? := hq 2 _ rfl
  have g3 : DataW.trod enc Tryz.prog w base spare held m 25 ((l.drop 3).take (Tryz.prog.cellsOf 25)) = xs[3]? := hq 3 _ rfl
  rw [cNK] at g0
  rw [cLI] at g1
  rw [cLK] at g2
  rw [cLV] at g3
  match l, hl with
  | [v0, v1, v2, v3], _ =>
    match xs, hxl with
    | [x0, x1, x2, x3], _ =>
      obtain ⟨z, e0, _, wz⟩ := DataW.trod_int Tryz.underlying22 (g0.trans rfl : _ = some x0)
      obtain ⟨k, rfl, hk⟩ := wf_u8 wz
      have hd : d = .agg [x0.1, x1.1, x2.1, x3.1] := congrArg Prod.fst hx
      have hw : ∀ (j : Nat) (t : TypeId) (y : DataW H), ([22, 23, 24, 25] : List TypeId)[j]? = some t → [x0.1, x1.1, x2.1, x3.1][j]? = some y → ∀ k ∈ y.weights Tryz.prog t, k ≤ reachBytes := fun j t y ht hy k hk => by
        refine hs k ?_
        rw [hd]
        have := DataW.weights_mem_each (P := Tryz.prog) ht hy k hk
        simpa [DataW.weights, Tryz.underlying27] using this
      obtain ⟨A1, n1, c1, D1, k1, k2, k3, k4⟩ := slI_of (x := x1) (g1.trans rfl) (hw 1 _ _ rfl rfl)
      obtain ⟨A2, n2, c2, D2, l1, l2, l3, l4, l5⟩ := slK_of (x := x2) (g2.trans rfl) (hw 2 _ _ rfl rfl)
      obtain ⟨A3, n3, c3, D3, m1, m2, m3, m4, m5⟩ := slV_of (x := x3) (g3.trans rfl) (hw 3 _ _ rfl rfl)
      have k1 : v1 = .slice A1 n1 c1 := by simpa using k1
      have l1 : v2 = .slice A2 n2 c2 := by simpa using l1
      have m1 : v3 = .slice A3 n3 c3 := by simpa using m1
      simp at e0
      refine ⟨⟨k, D1, D2, D3⟩, _, rfl, ⟨⟨A1, n1, c1, A2, n2, c2, A3, n3, c3, by rw [e0, k1, l1, m1], k2, l2, m2, by omega, by omega, by omega, k4, l4, m4⟩, ⟨l5, m5⟩, ?_, ?_, ?_⟩⟩
      · show D1.length * 32 ≤ _
        omega
      · show D2.length * 56 ≤ _
        omega
      · show D3.length * 88 ≤ _
        omega
theorem each {P : Program} {ts : List TypeId} {ds : List (DataW H)} (h : (DataW.weightsEach P ts ds).all (· ≤ reachBytes) = true) {j : Nat} {t : TypeId} {d : DataW H} (ht : ts[j]? = some t) (hd : ds[j]? = some d) : ∀ k ∈ d.weights P t, k ≤ reachBytes := fun k hk => by
  have := List.all_eq_true.1 h _ (DataW.weights_mem_each ht hd k hk)
  simpa using this
end
end Go.Proofs.YtnfcgifkghegjaaGreatDoor.Fr
