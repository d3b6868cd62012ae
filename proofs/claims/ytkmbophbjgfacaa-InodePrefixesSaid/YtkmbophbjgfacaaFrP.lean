/- Names, inodes and keys as arguments: how they are read. -/
import Derived.Test.YtkmbophbjgfacaaFr
import Derived.Test.YtkmbophbjgfacaaKyM
import Derived.Test.YtkmbophbjgfacaaPaA
import Derived.SliceStrings
import Derived.SizedLaws
import Derived.Lib.SmallJoins
namespace Go.Proofs.Ytkmbophbjgfacaa.Fr
set_option linter.unusedVariables false
set_option linter.unusedSimpArgs false
set_option maxRecDepth 100000
open Go.Joins Go.ChangeShapes Go.WideShapes Go.RowKit Go.Deep
open Ar
open Ino (In Ky)
open Ph (en1)
theorem bulk_one {H : Type} (d : DataW H) : 1 ≤ Rows.uptoBulk d := by
  cases d with
  | lit l => cases l <;> simp [Rows.uptoBulk]
  | _ => simp [Rows.uptoBulk]
theorem bulk_in {H : Type} {d : DataW H} : ∀ {l : List (DataW H)}, d ∈ l → Rows.uptoBulk d ≤ Rows.uptoBulkAll l
  | x :: r, h => by
    simp only [Rows.uptoBulkAll]
    rcases List.mem_cons.1 h with rfl | h
    · omega
    · have := bulk_in h; omega
/-- how many bytes some names have, each one counted as one more -/
def lens : List ByteArray → Nat
  | [] => 0
  | s :: r => s.size + 1 + lens r
theorem lens_len : ∀ l : List ByteArray, l.length ≤ lens l
  | [] => Nat.le_refl _
  | s :: r => by
    have := lens_len r
    simp only [lens, List.length_cons]
    omega
theorem bulk_strs {H : Type} : ∀ ss : List ByteArray, lens ss ≤ Rows.uptoBulkAll (strs (H := H) ss)
  | [] => Nat.zero_le _
  | s :: r => by
    have h1 := bulk_strs (H := H) r
    have h2 : s.data.toList.length = s.size := by rw [Array.length_toList]; rfl
    show s.size + 1 + lens r ≤ Rows.uptoBulkAll (DataW.lit (.string s.data.toList) :: strs (H := H) r)
    simp only [Rows.uptoBulkAll, Rows.uptoBulk]
    omega
theorem bulk_lens {H : Type} {l : List (DataW H)} (hk : Rows.uptoSmall H l = true) {d : DataW H} (hd : d ∈ l) {D : List ByteArray} (h : lens D ≤ Rows.uptoBulk d) : D.length ≤ 1048576 := by
  have h1 : Rows.uptoBulkAll l ≤ 1048576 := of_decide_eq_true hk
  have h2 := bulk_in hd
  have h3 := lens_len D
  omega
section
variable {H : Type} {enc : TypeId × Value → H} {w : World} {base : Nat} {spare : Nat → Bool} {held : Bool}
theorem argS {v : Value} {d : DataW H} {p : List MemPlace} (h : DataW.Trod enc Try.prog w base spare held 22 v d p) (hv : v.cells = #[v]) :
    ∃ A n c D, v = .slice A n c ∧ n = List.length D ∧ n ≤ c ∧ c ≤ maxLen ∧ Ls en1 1 w w.heap.size A D ∧ (∀ s ∈ D, s.size ≤ maxLen) ∧ lens D ≤ Rows.uptoBulk d := by
  obtain ⟨fuel, hf⟩ := h
  rw [hv] at hf
  rcases open_strings Try.underlying22 Try.underlying9 (by kernel_rfl) hf with ⟨hcs, hx⟩ | ⟨x, l, c, ss, hcs, _, hl, hm, hz, hx, hcell, hws⟩
  · simp at hcs
    exact ⟨none, 0, 0, [], hcs, rfl, Nat.le_refl _, Nat.zero_le _, Ls.nil, by simp, Nat.zero_le _⟩
  · simp at hcs
    have hsl : l ≤ ss.length := by rw [hz]; split <;> omega
    have hxs : x.spot = none ∨ ss.length = 0 := by
      rcases Nat.eq_zero_or_pos ss.length with h0 | h0
      · exact .inr h0
      · left
        have := World.cell?_spot (hcell 0 h0)
        simpa [Addr.add] using this
    refine ⟨some x, l, c, ss.take l, hcs, by rw [List.length_take]; omega, hl, hm, fun i s hs => ?_, fun s hs => hws s (List.mem_of_mem_take hs), ?_⟩
    · rw [List.getElem?_take] at hs
      split at hs
      · rename_i hil
        have hii : i < ss.length := by omega
        have hc := hcell i hii
        obtain ⟨b, o, spot⟩ := x
        rcases hxs with hspot | h0
        · simp only at hspot
          subst hspot
          refine ⟨b, o, rfl, ?_, fun j u hu => ?_⟩
          · have := World.block_lt_of_cell? w _ hc
            rw [Ar.add_plain] at this
            exact this
          · have hj : j < 1 := (List.getElem?_eq_some_iff.1 hu).1
            have : j = 0 := by omega
            subst this
            simp [en1] at hu
            subst hu
            rw [Ar.add_plain] at hc
            rw [Nat.mul_one, Nat.add_zero]
            rw [List.getD_eq_getElem?_getD, hs] at hc
            exact hc
        · omega
      · cases hs
    · have hb := bulk_strs (H := H) (ss.take l)
      have hd : d = .slice (strs (ss.take l)) (strs (ss.drop l)) := congrArg Prod.fst hx
      rw [hd]
      simp only [Rows.uptoBulk]
      omega
theorem wf_u {k : IntKind} {b : Nat} {z : Int} (hmin : k.min = 0) (hmax : k.max = (b : Int)) (h : (Lit.int k z).wf = true) : ∃ n : Nat, z = n ∧ n < b + 1 := by
  have h1 : k.min ≤ z ∧ z ≤ k.max := by simpa [Lit.wf] using h
  exact ⟨z.toNat, by omega, by omega⟩
theorem c32 : Try.prog.cellsOf 37 = 1 := by kernel_rfl
theorem c16 : Try.prog.cellsOf 36 = 1 := by kernel_rfl
theorem cSt : Try.prog.cellsOf 9 = 1 := by kernel_rfl
theorem cFK : Try.prog.cellsOf 35 = 1 := by kernel_rfl
theorem cKK : Try.prog.cellsOf 45 = 1 := by kernel_rfl
theorem cIn : Try.prog.cellsOf 39 = 5 := by kernel_rfl
theorem cKy : Try.prog.cellsOf 47 = 4 := by kernel_rfl
/-- an inode, a key, as values -/
def vI (n : In) : Value := .agg #[.int .u8 n.K, .int .u16 n.M, .int .u32 n.L, .int .u32 n.S, .string n.T]
def vK (k : Ky) : Value := .agg #[.int .u8 k.K, .int .u32 k.I, .string k.N, .int .u32 k.C]
/-- an argument that is an inode -/
theorem argIn {r : Reach} {b0 : Nat} {v : Value} {d : DataW H} {p : List MemPlace} (hv : Value.okWide Try.prog w r b0 39 v) (h : DataW.Trod enc Try.prog w base spare held 39 v d p) :
    ∃ n : In, v = vI n ∧ n.lim ∧ n.T.size ≤ maxLen := by
  obtain ⟨cs, rfl, hsz⟩ := okWide_struct Try.underlying39 hv
  obtain ⟨l⟩ := cs
  obtain ⟨fuel, hf⟩ := h
  have hl : l.length = 5 := hsz.trans cIn
  have hf' : DataW.trod enc Try.prog w base spare held fuel 39 l = some (d, p) := by simpa [Value.cells] using hf
  obtain ⟨xs, m, _, _, _, hxl, hg⟩ := DataW.trod_struct Try.underlying39 hf'
  have g0 : DataW.trod enc Try.prog w base spare held m 35 ((l.drop 0).take (Try.prog.cellsOf 35)) = xs[0]? := hg 0 _ rfl
  have g1 : DataW.trod enc Try.prog w base spare held m 36 ((l.drop 1).take (Try.prog.cellsOf 36)) = xs[1]? := hg 1 _ rfl
  have g2 : DataW.trod enc Try.prog w base spare held m 37 ((l.drop 2).take (Try.prog.cellsOf 37)) = xs[2]? := hg 2 _ rfl
  have g3 : DataW.trod enc Try.prog w base spare held m 37 ((l.drop 3).take (Try.prog.cellsOf 37)) = xs[3]? := hg 3 _ rfl
  have g4 : DataW.trod enc Try.prog w base spare held m 9 ((l.drop 4).take (Try.prog.cellsOf 9)) = xs[4]? := hg 4 _ rfl
  rw [cFK] at g0
  rw [c16] at g1
  rw [c32] at g2 g3
  rw [cSt] at g4
  match l, hl with
  | [v0, v1, v2, v3, v4], _ =>
    match xs, hxl with
    | [x0, x1, x2, x3, x4], _ =>
      obtain ⟨z0, e0, _, w0⟩ := DataW.trod_int Try.underlying35 (g0.trans rfl : _ = some x0)
      obtain ⟨z1, e1, _, w1⟩ := DataW.trod_int Try.underlying36 (g1.trans rfl : _ = some x1)
      obtain ⟨z2, e2, _, w2⟩ := DataW.trod_int Try.underlying37 (g2.trans rfl : _ = some x2)
      obtain ⟨z3, e3, _, w3⟩ := DataW.trod_int Try.underlying37 (g3.trans rfl : _ = some x3)
      obtain ⟨s4, e4, _, w4⟩ := DataW.trod_string Try.underlying9 (g4.trans rfl : _ = some x4)
      obtain ⟨k0, rfl, l0⟩ := wf_u (b := 255) rfl rfl w0
      obtain ⟨k1, rfl, l1⟩ := wf_u (b := 65535) rfl rfl w1
      obtain ⟨k2, rfl, l2⟩ := wf_u (b := 4294967295) rfl rfl w2
      obtain ⟨k3, rfl, l3⟩ := wf_u (b := 4294967295) rfl rfl w3
      simp at e0 e1 e2 e3 e4
      subst e0 e1 e2 e3 e4
      exact ⟨⟨k0, k1, k2, k3, s4⟩, rfl, ⟨by omega, by omega, by omega, by omega⟩, w4⟩
/-- an argument that is a key -/
theorem argKy {r : Reach} {b0 : Nat} {v : Value} {d : DataW H} {p : List MemPlace} (hv : Value.okWide Try.prog w r b0 47 v) (h : DataW.Trod enc Try.prog w base spare held 47 v d p) :
    ∃ k : Ky, v = vK k ∧ k.lim ∧ k.N.size ≤ maxLen := by
  obtain ⟨cs, rfl, hsz⟩ := okWide_struct Try.underlying47 hv
  obtain ⟨l⟩ := cs
  obtain ⟨fuel, hf⟩ := h
  have hl : l.length = 4 := hsz.trans cKy
  have hf' : DataW.trod enc Try.prog w base spare held fuel 47 l = some (d, p) := by simpa [Value.cells] using hf
  obtain ⟨xs, m, _, _, _, hxl, hg⟩ := DataW.trod_struct Try.underlying47 hf'
  have g0 : DataW.trod enc Try.prog w base spare held m 45 ((l.drop 0).take (Try.prog.cellsOf 45)) = xs[0]? := hg 0 _ rfl
  have g1 : DataW.trod enc Try.prog w base spare held m 37 ((l.drop 1).take (Try.prog.cellsOf 37)) = xs[1]? := hg 1 _ rfl
  have g2 : DataW.trod enc Try.prog w base spare held m 9 ((l.drop 2).take (Try.prog.cellsOf 9)) = xs[2]? := hg 2 _ rfl
  have g3 : DataW.trod enc Try.prog w base spare held m 37 ((l.drop 3).take (Try.prog.cellsOf 37)) = xs[3]? := hg 3 _ rfl
  rw [cKK] at g0
  rw [c32] at g1 g3
  rw [cSt] at g2
  match l, hl with
  | [v0, v1, v2, v3], _ =>
    match xs, hxl with
    | [x0, x1, x2, x3], _ =>
      obtain ⟨z0, e0, _, w0⟩ := DataW.trod_int Try.underlying45 (g0.trans rfl : _ = some x0)
      obtain ⟨z1, e1, _, w1⟩ := DataW.trod_int Try.underlying37 (g1.trans rfl : _ = some x1)
      obtain ⟨s2, e2, _, w2⟩ := DataW.trod_string Try.underlying9 (g2.trans rfl : _ = some x2)
      obtain ⟨z3, e3, _, w3⟩ := DataW.trod_int Try.underlying37 (g3.trans rfl : _ = some x3)
      obtain ⟨k0, rfl, l0⟩ := wf_u (b := 255) rfl rfl w0
      obtain ⟨k1, rfl, l1⟩ := wf_u (b := 4294967295) rfl rfl w1
      obtain ⟨k3, rfl, l3⟩ := wf_u (b := 4294967295) rfl rfl w3
      simp at e0 e1 e2 e3
      subst e0 e1 e2 e3
      exact ⟨⟨k0, k1, s2, k3⟩, rfl, ⟨by omega, by omega, by omega⟩, w2⟩
end
end Go.Proofs.Ytkmbophbjgfacaa.Fr
