/- Superblocks as arguments: how they are read. -/
import Derived.Test.YtlchjohaacbkpaaGreatDoorFrN
import Derived.Test.YtlchjohaacbkpaaGreatDoorSuA
namespace Go.Proofs.YtlchjohaacbkpaaGreatDoor.Fr
set_option linter.unusedVariables false
set_option linter.unusedSimpArgs false
set_option maxRecDepth 100000
open Go.Joins Go.ChangeShapes Go.WideShapes Go.RowKit Go.Deep
open Ar Nd
open Pk (u8s u8s_length)
section
variable {H : Type} {enc : TypeId × Value → H} {w : World} {base : Nat} {spare : Nat → Bool} {held : Bool}
theorem cSup : Tryz.prog.cellsOf 44 = 35 := by kernel_rfl
/-- an argument that is a superblock -/
theorem argSu {r : Reach} {b0 : Nat} {v : Value} {d : DataW H} {p : List MemPlace} (hv : Value.okWide Tryz.prog w r b0 44 v) (h : DataW.Trod enc Tryz.prog w base spare held 44 v d p) :
    ∃ s : Sp.Su, v = Sp.vS s ∧ s.lim := by
  obtain ⟨cs, rfl, hsz⟩ := okWide_struct Tryz.underlying44 hv
  obtain ⟨l⟩ := cs
  obtain ⟨fuel, hf⟩ := h
  have hl : l.length = 35 := hsz.trans cSup
  have hf' : DataW.trod enc Tryz.prog w base spare held fuel 44 l = some (d, p) := by simpa [Value.cells] using hf
  obtain ⟨xs, m, _, _, _, hxl, hg⟩ := DataW.trod_struct Tryz.underlying44 hf'
  have g0 : DataW.trod enc Tryz.prog w base spare held m 39 ((l.drop 0).take (Tryz.prog.cellsOf 39)) = xs[0]? := hg 0 _ rfl
  have g1 : DataW.trod enc Tryz.prog w base spare held m 41 ((l.drop 1).take (Tryz.prog.cellsOf 41)) = xs[1]? := hg 1 _ rfl
  have g2 : DataW.trod enc Tryz.prog w base spare held m 39 ((l.drop 2).take (Tryz.prog.cellsOf 39)) = xs[2]? := hg 2 _ rfl
  have g3 : DataW.trod enc Tryz.prog w base spare held m 42 ((l.drop 3).take (Tryz.prog.cellsOf 42)) = xs[3]? := hg 3 _ rfl
  rw [cU] at g0 g2
  rw [cU64] at g1
  rw [cArr] at g3
  match l, hl with
  | v0 :: v1 :: v2 :: rest, hl =>
    match xs, hxl with
    | [x0, x1, x2, x3], _ =>
      obtain ⟨z0, e0, _, w0⟩ := DataW.trod_int Tryz.underlying39 (g0.trans rfl : _ = some x0)
      obtain ⟨z1, e1, _, w1⟩ := DataW.trod_int Tryz.underlying41 (g1.trans rfl : _ = some x1)
      obtain ⟨z2, e2, _, w2⟩ := DataW.trod_int Tryz.underlying39 (g2.trans rfl : _ = some x2)
      have hr : rest.length = 32 := by simpa using hl
      have hrt : (rest).take 32 = rest := List.take_of_length_le (by omega)
      have g3' : DataW.trod enc Tryz.prog w base spare held m 42 rest = some x3 := by
        have : DataW.trod enc Tryz.prog w base spare held m 42 (rest.take 32) = some x3 := g3
        rwa [hrt] at this
      obtain ⟨hs, hsl, he⟩ := readH hr g3'
      obtain ⟨k0, rfl, l0⟩ := wf_u32 w0
      obtain ⟨k1, rfl, l1⟩ := wf_u64 w1
      obtain ⟨k2, rfl, l2⟩ := wf_u32 w2
      simp at e0 e1 e2
      subst e0 e1 e2 he
      exact ⟨⟨k0, k1, k2, hs⟩, rfl, ⟨by show k0 < _; omega, l1, by show k2 < _; omega, hsl⟩⟩
end
end Go.Proofs.YtlchjohaacbkpaaGreatDoor.Fr
