/- Items and changes as arguments: how they are read; what the bound says of how many there are. -/
import Derived.Test.YtpchkmjpmlbbgaaFr
import Derived.Test.YtpchkmjpmlbbgaaItA
import Derived.Test.YtpchkmjpmlbbgaaChA
import Derived.Lib.SmallJoins
namespace Go.Proofs.Ytpchkmjpmlbbgaa.Fr
set_option linter.unusedVariables false
open Go.Joins Go.ChangeShapes Go.WideShapes Go.RowKit Go.Deep
open Ar
theorem bulk_one {H : Type} (d : DataW H) : 1 ≤ Rows.uptoBulk d := by
  cases d with
  | lit l => cases l <;> simp [Rows.uptoBulk]
  | _ => simp [Rows.uptoBulk]
theorem bulk_len {H : Type} : ∀ l : List (DataW H), l.length ≤ Rows.uptoBulkAll l
  | [] => Nat.zero_le _
  | d :: r => by
    have h1 := bulk_one d
    have h2 := bulk_len r
    simp only [Rows.uptoBulkAll, List.length_cons]
    omega
theorem bulk_in {H : Type} {d : DataW H} : ∀ {l : List (DataW H)}, d ∈ l → Rows.uptoBulk d ≤ Rows.uptoBulkAll l
  | x :: r, h => by
    simp only [Rows.uptoBulkAll]
    rcases List.mem_cons.1 h with rfl | h
    · omega
    · have := bulk_in h; omega
theorem bulk_slice {H : Type} {l : List (DataW H)} (hk : Rows.uptoSmall H l = true) {d : DataW H} (hd : d ∈ l) {E F : List (DataW H)} (he : d = .slice E F) : E.length ≤ 1048576 := by
  have h1 : Rows.uptoBulkAll l ≤ 1048576 := of_decide_eq_true hk
  have h2 := bulk_in hd
  subst he
  have h3 := bulk_len E
  simp only [Rows.uptoBulk] at h2
  omega
theorem bulk_string {H : Type} {l : List (DataW H)} (hk : Rows.uptoSmall H l = true) {s : List UInt8} (hd : DataW.lit (.string s) ∈ l) : s.length ≤ 1048576 := by
  have h1 : Rows.uptoBulkAll l ≤ 1048576 := of_decide_eq_true hk
  have h2 := bulk_in hd
  simp only [Rows.uptoBulk] at h2
  omega
section
variable {H : Type} {enc : TypeId × Value → H} {w : World} {base : Nat} {spare : Nat → Bool} {held : Bool}
theorem c9 : Try.prog.cellsOf 9 = 1 := by kernel_rfl
theorem c4 : Try.prog.cellsOf 4 = 1 := by kernel_rfl
theorem readI {n : Nat} {cs : List Value} {y : DataW H × List MemPlace} (hl : cs.length = 2) (h : DataW.trod enc Try.prog w base spare held n 43 cs = some y) : ∃ x : It.Itm, cs = It.enc x := by
  obtain ⟨xs, m, _, _, _, hxl, hf⟩ := DataW.trod_struct Try.underlying43 h
  have g0 : DataW.trod enc Try.prog w base spare held m 9 ((cs.drop 0).take (Try.prog.cellsOf 9)) = xs[0]? := hf 0 _ rfl
  have g1 : DataW.trod enc Try.prog w base spare held m 9 ((cs.drop 1).take (Try.prog.cellsOf 9)) = xs[1]? := hf 1 _ rfl
  rw [c9] at g0 g1
  match cs, hl with
  | [v0, v1], _ =>
    match xs, hxl with
    | [x0, x1], _ =>
      obtain ⟨s0, e0, _⟩ := DataW.trod_string Try.underlying9 (g0.trans rfl : _ = some x0)
      obtain ⟨s1, e1, _⟩ := DataW.trod_string Try.underlying9 (g1.trans rfl : _ = some x1)
      simp at e0 e1
      exact ⟨⟨s0, s1⟩, by rw [e0, e1]; rfl⟩
theorem readC {n : Nat} {cs : List Value} {y : DataW H × List MemPlace} (hl : cs.length = 3) (h : DataW.trod enc Try.prog w base spare held n 39 cs = some y) : ∃ x : Sc.Ch, cs = Sc.enc x := by
  obtain ⟨xs, m, _, _, _, hxl, hf⟩ := DataW.trod_struct Try.underlying39 h
  have g0 : DataW.trod enc Try.prog w base spare held m 9 ((cs.drop 0).take (Try.prog.cellsOf 9)) = xs[0]? := hf 0 _ rfl
  have g1 : DataW.trod enc Try.prog w base spare held m 4 ((cs.drop 1).take (Try.prog.cellsOf 4)) = xs[1]? := hf 1 _ rfl
  have g2 : DataW.trod enc Try.prog w base spare held m 9 ((cs.drop 2).take (Try.prog.cellsOf 9)) = xs[2]? := hf 2 _ rfl
  rw [c9] at g0 g2
  rw [c4] at g1
  match cs, hl with
  | [v0, v1, v2], _ =>
    match xs, hxl with
    | [x0, x1, x2], _ =>
      obtain ⟨s0, e0, _⟩ := DataW.trod_string Try.underlying9 (g0.trans rfl : _ = some x0)
      obtain ⟨s1, e1, _⟩ := DataW.trod_bool Try.underlying4 (g1.trans rfl : _ = some x1)
      obtain ⟨s2, e2, _⟩ := DataW.trod_string Try.underlying9 (g2.trans rfl : _ = some x2)
      simp at e0 e1 e2
      exact ⟨⟨s0, s1, s2⟩, by rw [e0, e1, e2]; rfl⟩
theorem cI : Try.prog.cellsOf 43 = 2 := by kernel_rfl
theorem cC : Try.prog.cellsOf 39 = 3 := by kernel_rfl
/-- an argument that is a list of items -/
theorem argI {v : Value} {d : DataW H} {p : List MemPlace} (h : DataW.Trod enc Try.prog w base spare held 22 v d p) (hv : v.cells = #[v]) :
    ∃ A n c D, v = .slice A n c ∧ n = List.length D ∧ n ≤ c ∧ c ≤ maxLen ∧ Ls It.enc 2 w w.heap.size A D ∧ (n = 0 ∨ ∃ E F, d = .slice E F ∧ E.length = n) := by
  obtain ⟨fuel, hf⟩ := h
  rcases open_ls It.enc 2 Try.underlying22 cI (by decide) (fun n cs y hl h => readI hl h) hv hf with ⟨h1, h2⟩ | ⟨A, n, c, m, D, h1, h2, h3, h4, h5, E, F, h6, h7, _⟩
  · exact ⟨none, 0, 0, [], h1, rfl, Nat.le_refl _, Nat.zero_le _, Ls.nil, .inl rfl⟩
  · exact ⟨A, n, c, D, h1, h2, h3, h4, h5, .inr ⟨E, F, h6, h7⟩⟩
theorem argC {v : Value} {d : DataW H} {p : List MemPlace} (h : DataW.Trod enc Try.prog w base spare held 32 v d p) (hv : v.cells = #[v]) :
    ∃ A n c D, v = .slice A n c ∧ n = List.length D ∧ n ≤ c ∧ c ≤ maxLen ∧ Ls Sc.enc 3 w w.heap.size A D ∧ (n = 0 ∨ ∃ E F, d = .slice E F ∧ E.length = n) := by
  obtain ⟨fuel, hf⟩ := h
  rcases open_ls Sc.enc 3 Try.underlying32 cC (by decide) (fun n cs y hl h => readC hl h) hv hf with ⟨h1, h2⟩ | ⟨A, n, c, m, D, h1, h2, h3, h4, h5, E, F, h6, h7, _⟩
  · exact ⟨none, 0, 0, [], h1, rfl, Nat.le_refl _, Nat.zero_le _, Ls.nil, .inl rfl⟩
  · exact ⟨A, n, c, D, h1, h2, h3, h4, h5, .inr ⟨E, F, h6, h7⟩⟩
/-- an argument that is a change -/
theorem argOne {r : Reach} {b0 : Nat} {v : Value} {d : DataW H} {p : List MemPlace} (hv : Value.okWide Try.prog w r b0 39 v) (h : DataW.Trod enc Try.prog w base spare held 39 v d p) :
    ∃ x : Sc.Ch, v = .agg #[.string x.k, .bool x.h, .string x.v] := by
  obtain ⟨cs, rfl, hsz⟩ := okWide_struct Try.underlying39 hv
  obtain ⟨l⟩ := cs
  obtain ⟨fuel, hf⟩ := h
  have hl : l.length = 3 := hsz.trans cC
  obtain ⟨x, hx⟩ := readC (n := fuel) hl (by simpa [Value.cells] using hf)
  exact ⟨x, by rw [hx]; rfl⟩
end
end Go.Proofs.Ytpchkmjpmlbbgaa.Fr
