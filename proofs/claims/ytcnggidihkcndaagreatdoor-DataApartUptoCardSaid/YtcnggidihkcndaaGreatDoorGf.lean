/- How arguments are opened: slices whose elements are structs of plain cells; how the bound of a statement reaches their lengths. -/
import Derived.Test.YtcnggidihkcndaaGreatDoorLs
import Derived.Test.YtcnggidihkcndaaGreatDoorItA
import Derived.Test.YtcnggidihkcndaaGreatDoorChA
import Derived.Deep.Slices
import Derived.ChangeArms
import Derived.Lib.SmallJoins
import Derived.JoinedCond
import Derived.LaidLaws
import Derived.Handed
namespace Go.Proofs.YtcnggidihkcndaaGreatDoor.Fr
set_option linter.unusedVariables false
open Go.ChangeShapes Go.WideShapes Go.RowKit Go.Deep
open Ar
theorem list_of {α : Type} {p : Nat → α → Prop} : ∀ n : Nat, (∀ i, i < n → ∃ x, p i x) → ∃ D : List α, D.length = n ∧ ∀ i x, D[i]? = some x → p i x
  | 0, _ => ⟨[], rfl, fun i x h => by simp at h⟩
  | n + 1, h => by
    obtain ⟨D, h1, h2⟩ := list_of n fun i hi => h i (by omega)
    obtain ⟨y, hy⟩ := h n (by omega)
    refine ⟨D ++ [y], by simp [h1], fun i x hx => ?_⟩
    rcases Nat.lt_or_ge i n with hlt | hge
    · rw [List.getElem?_append_left (by omega)] at hx; exact h2 i x hx
    · rw [List.getElem?_append_right (by omega), h1] at hx
      have : i = n := by
        rcases Nat.lt_or_ge n i with h3 | h3
        · rw [List.getElem?_eq_none (by simp; omega)] at hx; cases hx
        · omega
      subst this
      simp at hx; subst hx; exact hy
section
variable {H : Type} {enc : TypeId × Value → H} {P : Program} {w : World} {base : Nat} {spare : Nat → Bool} {held : Bool}
theorem open_ls {α : Type} (en : α → List Value) (k : Nat) {t e : TypeId} {fuel : Nat} {v : Value} {x : DataW H × List MemPlace} (ht : P.underlying t = some (.slice e)) (hk : P.cellsOf e = k) (hk0 : 0 < k)
    (hr : ∀ n cs y, cs.length = k → DataW.trod enc P w base spare held n e cs = some y → ∃ x : α, cs = en x) (hv : v.cells = #[v]) (h : DataW.trod enc P w base spare held fuel t v.cells.toList = some x) :
    (v = .slice none 0 0 ∧ x.1 = .nil) ∨ ∃ A n c m D, v = .slice A n c ∧ n = List.length D ∧ n ≤ c ∧ c ≤ maxLen ∧ Ls en k w w.heap.size A D ∧ ∃ E F, x.1 = .slice E F ∧ E.length = n ∧ E.length + F.length = m := by
  rw [hv] at h
  rcases open_slice ht h with ⟨h1, h2⟩ | ⟨a, len, cap, m, n, D, Pl, hcs, hb, hl, hm, hmm, hx, hi⟩
  · left; simp at h1; exact ⟨h1, by rw [h2]⟩
  · right
    have hlm : len ≤ m := by rw [hmm]; split <;> omega
    simp at hcs
    rw [hk] at hi
    obtain ⟨L, hL1, hL2⟩ := list_of (α := α) (p := fun i x => ∃ b o, (some a : Option Addr) = some ⟨b, o, none⟩ ∧ b < w.heap.size ∧ w.rangeAt b (o + i * k) (en x)) len fun i hil => by
      have hspot : a.spot = none := by
        obtain ⟨cs', h1, h2⟩ := hi 0 (by omega)
        obtain ⟨_, hlen, hcell⟩ := World.cells?_some h1
        have hc0 := (hcell 0 hk0).trans (List.getElem?_eq_getElem (by omega))
        rw [add_add, Nat.zero_mul] at hc0
        have := World.cell?_spot hc0
        simpa [Addr.add] using this
      obtain ⟨cs', h1, h2⟩ := hi i (by omega)
      obtain ⟨_, hlen, hcell⟩ := World.cells?_some h1
      obtain ⟨x, rfl⟩ := hr _ _ _ hlen h2
      have hc0 := (hcell 0 hk0).trans (List.getElem?_eq_getElem (by omega))
      rw [add_add] at hc0
      obtain ⟨b, o, spot⟩ := a
      simp only at hspot
      subst hspot
      refine ⟨x, b, o, rfl, ?_, fun j u hu => ?_⟩
      · have := World.block_lt_of_cell? w _ hc0
        rw [Ar.add_plain] at this
        exact this
      · have hj : j < k := by rw [← hlen]; exact (List.getElem?_eq_some_iff.1 hu).1
        have := hcell j hj
        rw [add_add, Ar.add_plain, ← Nat.add_assoc, hu] at this
        exact this
    refine ⟨some a, len, cap, m, L, hcs, hL1.symm, hl, hm, hL2, (List.range len).map D, (List.range (m - len)).map fun j => D (len + j), by rw [hx], by simp, ?_⟩
    simp
    omega
end
end Go.Proofs.YtcnggidihkcndaaGreatDoor.Fr
/- Items and changes as arguments: how they are read; what the bound says of how many there are. -/
namespace Go.Proofs.YtcnggidihkcndaaGreatDoor.Fr
set_option linter.unusedVariables false
set_option maxRecDepth 100000
open Go.Joins Go.ChangeShapes Go.WideShapes Go.RowKit Go.Deep
open Ar
theorem bulk_one {H : Type} (d : DataW H) : 1 ≤ Rows.uptoBulk d := by
  cases d with
  | lit l => cases l <;> simp [Rows.uptoBulk]
  | _ => simp [Rows.uptoBulk]
theorem bulk_len {H : Type} : ∀ l : List (DataW H), l.length ≤ Rows.uptoBulkAll l
  | [] => Nat.zero_le _
  | d :: r => by
    have h1 := bulk_one d
    have h2 := bulk_len r
    simp only [Rows.uptoBulkAll, List.length_cons]
    omega
theorem bulk_in {H : Type} {d : DataW H} : ∀ {l : List (DataW H)}, d ∈ l → Rows.uptoBulk d ≤ Rows.uptoBulkAll l
  | x :: r, h => by
    simp only [Rows.uptoBulkAll]
    rcases List.mem_cons.1 h with rfl | h
    · omega
    · have := bulk_in h; omega
theorem bulk_slice {H : Type} {l : List (DataW H)} (hk : Rows.uptoSmall H l = true) {d : DataW H} (hd : d ∈ l) {E F : List (DataW H)} (he : d = .slice E F) : E.length ≤ 1048576 := by
  have h1 : Rows.uptoBulkAll l ≤ 1048576 := of_decide_eq_true hk
  have h2 := bulk_in hd
  subst he
  have h3 := bulk_len E
  simp only [Rows.uptoBulk] at h2
  omega
theorem bulk_string {H : Type} {l : List (DataW H)} (hk : Rows.uptoSmall H l = true) {s : List UInt8} (hd : DataW.lit (.string s) ∈ l) : s.length ≤ 1048576 := by
  have h1 : Rows.uptoBulkAll l ≤ 1048576 := of_decide_eq_true hk
  have h2 := bulk_in hd
  simp only [Rows.uptoBulk] at h2
  omega
section
variable {H : Type} {enc : TypeId × Value → H} {w : World} {base : Nat} {spare : Nat → Bool} {held : Bool}
theorem c9 : Tryz.prog.cellsOf 9 = 1 := by kernel_rfl
theorem c4 : Tryz.prog.cellsOf 4 = 1 := by kernel_rfl
theorem readI {n : Nat} {cs : List Value} {y : DataW H × List MemPlace} (hl : cs.length = 2) (h : DataW.trod enc Tryz.prog w base spare held n 55 cs = some y) : ∃ x : It.Itm, cs = It.enc x := by
  obtain ⟨xs, m, _, _, _, hxl, hf⟩ := DataW.trod_struct Tryz.underlying55 h
  have g0 : DataW.trod enc Tryz.prog w base spare held m 9 ((cs.drop 0).take (Tryz.prog.cellsOf 9)) = xs[0]? := hf 0 _ rfl
  have g1 : DataW.trod enc Tryz.prog w base spare held m 9 ((cs.drop 1).take (Tryz.prog.cellsOf 9)) = xs[1]? := hf 1 _ rfl
  rw [c9] at g0 g1
  match cs, hl with
  | [v0, v1], _ =>
    match xs, hxl with
    | [x0, x1], _ =>
      obtain ⟨s0, e0, _⟩ := DataW.trod_string Tryz.underlying9 (g0.trans rfl : _ = some x0)
      obtain ⟨s1, e1, _⟩ := DataW.trod_string Tryz.underlying9 (g1.trans rfl : _ = some x1)
      simp at e0 e1
      exact ⟨⟨s0, s1⟩, by rw [e0, e1]; rfl⟩
theorem readC {n : Nat} {cs : List Value} {y : DataW H × List MemPlace} (hl : cs.length = 3) (h : DataW.trod enc Tryz.prog w base spare held n 43 cs = some y) : ∃ x : Sc.Ch, cs = Sc.enc x := by
  obtain ⟨xs, m, _, _, _, hxl, hf⟩ := DataW.trod_struct Tryz.underlying43 h
  have g0 : DataW.trod enc Tryz.prog w base spare held m 9 ((cs.drop 0).take (Tryz.prog.cellsOf 9)) = xs[0]? := hf 0 _ rfl
  have g1 : DataW.trod enc Tryz.prog w base spare held m 4 ((cs.drop 1).take (Tryz.prog.cellsOf 4)) = xs[1]? := hf 1 _ rfl
  have g2 : DataW.trod enc Tryz.prog w base spare held m 9 ((cs.drop 2).take (Tryz.prog.cellsOf 9)) = xs[2]? := hf 2 _ rfl
  rw [c9] at g0 g2
  rw [c4] at g1
  match cs, hl with
  | [v0, v1, v2], _ =>
    match xs, hxl with
    | [x0, x1, x2], _ =>
      obtain ⟨s0, e0, _⟩ := DataW.trod_string Tryz.underlying9 (g0.trans rfl : _ = some x0)
      obtain ⟨s1, e1, _⟩ := DataW.trod_bool Tryz.underlying4 (g1.trans rfl : _ = some x1)
      obtain ⟨s2, e2, _⟩ := DataW.trod_string Tryz.underlying9 (g2.trans rfl : _ = some x2)
      simp at e0 e1 e2
      exact ⟨⟨s0, s1, s2⟩, by rw [e0, e1, e2]; rfl⟩
theorem cI : Tryz.prog.cellsOf 55 = 2 := by kernel_rfl
theorem cC : Tryz.prog.cellsOf 43 = 3 := by kernel_rfl
/-- an argument that is a list of items -/
theorem argI {v : Value} {d : DataW H} {p : List MemPlace} (h : DataW.Trod enc Tryz.prog w base spare held 22 v d p) (hv : v.cells = #[v]) :
    ∃ A n c D, v = .slice A n c ∧ n = List.length D ∧ n ≤ c ∧ c ≤ maxLen ∧ Ls It.enc 2 w w.heap.size A D ∧ (n = 0 ∨ ∃ E F, d = .slice E F ∧ E.length = n) := by
  obtain ⟨fuel, hf⟩ := h
  rcases open_ls It.enc 2 Tryz.underlying22 cI (by decide) (fun n cs y hl h => readI hl h) hv hf with ⟨h1, h2⟩ | ⟨A, n, c, m, D, h1, h2, h3, h4, h5, E, F, h6, h7, _⟩
  · exact ⟨none, 0, 0, [], h1, rfl, Nat.le_refl _, Nat.zero_le _, Ls.nil, .inl rfl⟩
  · exact ⟨A, n, c, D, h1, h2, h3, h4, h5, .inr ⟨E, F, h6, h7⟩⟩
theorem argC {v : Value} {d : DataW H} {p : List MemPlace} (h : DataW.Trod enc Tryz.prog w base spare held 25 v d p) (hv : v.cells = #[v]) :
    ∃ A n c D, v = .slice A n c ∧ n = List.length D ∧ n ≤ c ∧ c ≤ maxLen ∧ Ls Sc.enc 3 w w.heap.size A D ∧ (n = 0 ∨ ∃ E F, d = .slice E F ∧ E.length = n) := by
  obtain ⟨fuel, hf⟩ := h
  rcases open_ls Sc.enc 3 Tryz.underlying25 cC (by decide) (fun n cs y hl h => readC hl h) hv hf with ⟨h1, h2⟩ | ⟨A, n, c, m, D, h1, h2, h3, h4, h5, E, F, h6, h7, _⟩
  · exact ⟨none, 0, 0, [], h1, rfl, Nat.le_refl _, Nat.zero_le _, Ls.nil, .inl rfl⟩
  · exact ⟨A, n, c, D, h1, h2, h3, h4, h5, .inr ⟨E, F, h6, h7⟩⟩
/-- an argument that is a change -/
theorem argOne {r : Reach} {b0 : Nat} {v : Value} {d : DataW H} {p : List MemPlace} (hv : Value.okWide Tryz.prog w r b0 43 v) (h : DataW.Trod enc Tryz.prog w base spare held 43 v d p) :
    ∃ x : Sc.Ch, v = .agg #[.string x.k, .bool x.h, .string x.v] := by
  obtain ⟨cs, rfl, hsz⟩ := okWide_struct Tryz.underlying43 hv
  obtain ⟨l⟩ := cs
  obtain ⟨fuel, hf⟩ := h
  have hl : l.length = 3 := hsz.trans cC
  obtain ⟨x, hx⟩ := readC (n := fuel) hl (by simpa [Value.cells] using hf)
  exact ⟨x, by rw [hx]; rfl⟩
end
end Go.Proofs.YtcnggidihkcndaaGreatDoor.Fr
/- A tied card of the bounded form: its condition, with what the listed variables read as. No function of the program here. -/
namespace Go.Proofs.YtcnggidihkcndaaGreatDoor.Fr
set_option linter.unusedVariables false
open Go.Joins Go.ChangeShapes
section
variable {H : Type} {enc : TypeId × Value → H}
theorem cond_and {a : Assume} {C : Checked} {os : Os} {f : FuncId} {fn : Func} {s : OpenSpec} {k : (H : Type) → List (DataW H) → Bool} (hk : s.cond = some k) {F : Stop.Interp} {conds : List PathCond} {apart fresh handsOn again : Bool} {X : World → Array Value → Prop}
    (hX : ∀ (w w' : World) (args : Array Value), w.heap = w'.heap → X w args → X w' args)
    (own : ownKnob C.prog.godebug = none) (started : os.Started) (noInit : C.prog.inits.idxOf? f = none) (hfn : C.prog.funcs[f]? = some fn)
    (witness : ∃ (w : World) (tape : Tape) (i : Input), w.os = os ∧ (w.forCall tape i).Shaped C.prog ∧ i.vars = [] ∧ Input.okWide C.prog (w.forCall tape i) .any w.heap.size f i ∧
      ((s.pre enc C.prog fn conds apart (w.forCall tape i).memory i.args ∧ X (w.forCall tape i).memory i.args) ∧ sizedMet enc C.prog fn s apart (w.forCall tape i).memory i.args) ∧ a.holds C.prog (lone (Frame.enter C.prog f i.args .normal) [] (w.forCall tape i)))
    (contract : ∀ (W : World) (base : Nat) (args : Array Value) (ds gs : List (DataW H)) (before : List MemPlace),
      (∀ (j : Nat) t v, fn.params[j]? = some t → args[j]? = some v → Value.okWide C.prog W .any base t v) →
      DataW.Whole enc C.prog fn.params.toList s.vars apart W args.toList ds gs before →
      conds.all (PathCond.test C.prog ⟨fn.params.toList, ds, s.bare.plain.varTypes C.prog, gs⟩) = true → k H (ds ++ gs) = true → X W args →
      a.holds C.prog (lone (Frame.enter C.prog f args .normal) [] W) →
      Calls C.prog f args W fun e W' => ∃ v, e = .returned v ∧ (s.at F).post enc C.prog fn apart fresh handsOn again W args v W') :
    ReturnsInHanded a C os f .any (fun w args => (s.pre enc C.prog fn conds apart w args ∧ X w args) ∧ sizedMet enc C.prog fn s apart w args) ((s.at F).post enc C.prog fn apart fresh handsOn again) := by
  refine returnsInHanded_of_calls own started noInit witness ?_
  intro w tape i _ _ _ hok hpre hholds
  obtain ⟨_, _, _, fn', hfn', _, _, _, _, hval⟩ := hok
  have e : fn' = fn := Option.some.inj (hfn'.symm.trans hfn)
  subst e
  obtain ⟨⟨hp, hx⟩, hz⟩ := hpre
  obtain ⟨ds, gs, before, hw, hc, hkk⟩ := (OpenSpec.pre_some hk conds apart _ _).1 hp
  have hw' := DataW.Whole.of_heap (w' := w.forCall tape i) (by rfl) hw
  refine (contract (w.forCall tape i) w.heap.size i.args ds gs before hval hw' hc hkk (hX _ _ _ (by rfl) hx) hholds).mono fun e W' ⟨v, he, hp⟩ => ?_
  subst he
  exact ChangeSpec.post_blind hp
theorem cond_witness {C : Checked} {os : Os} {f : FuncId} {fn : Func} {s : OpenSpec} {k : (H : Type) → List (DataW H) → Bool} (hk : s.cond = some k) {conds : List PathCond} {apart : Bool} {X : World → Array Value → Prop} (modest : Bool) (w0 : World) (args : Array Value) (fuel : Nat) (hos : w0.os = os)
    (hsh : (w0.forCall (fun _ _ => 0) ⟨#[], args, []⟩).Shaped C.prog)
    (hok : Input.okWideB C.prog (w0.forCall (fun _ _ => 0) ⟨#[], args, []⟩) f ⟨#[], args, []⟩ = true)
    {x : List (DataW H) × List (DataW H) × List MemPlace} (hx : DataW.whole enc C.prog (w0.forCall (fun _ _ => 0) ⟨#[], args, []⟩).memory fn.params.toList s.vars apart args.toList fuel = some x)
    (hconds : conds.all (PathCond.test C.prog ⟨fn.params.toList, x.1, s.bare.plain.varTypes C.prog, x.2.1⟩) = true) (hkk : k H (x.1 ++ x.2.1) = true)
    (hsz : s.bare.sizedB enc C.prog fn apart (w0.forCall (fun _ _ => 0) ⟨#[], args, []⟩).memory args fuel = true)
    (hX : X (w0.forCall (fun _ _ => 0) ⟨#[], args, []⟩).memory args) :
    ∃ (w : World) (tape : Tape) (i : Input), w.os = os ∧ (w.forCall tape i).Shaped C.prog ∧ i.vars = [] ∧ Input.okWide C.prog (w.forCall tape i) .any w.heap.size f i ∧
      ((s.pre enc C.prog fn conds apart (w.forCall tape i).memory i.args ∧ X (w.forCall tape i).memory i.args) ∧ sizedMet enc C.prog fn s apart (w.forCall tape i).memory i.args) ∧ ({ modest := modest } : Assume).holds C.prog (lone (Frame.enter C.prog f i.args .normal) [] (w.forCall tape i)) :=
  ⟨w0, fun _ _ => 0, ⟨#[], args, []⟩, hos, hsh, (Input.okWide_of_okWideB (base := 0) hok).1, (Input.okWide_of_okWideB hok).2,
    ⟨⟨(OpenSpec.pre_some hk conds apart _ _).2 ⟨x.1, x.2.1, x.2.2, DataW.Whole_of_whole hx, hconds, hkk⟩, hX⟩, sizedMet_of_sizedB hsz⟩, by
    simp only [Assume.holds]
    exact ⟨by simp, by simp, fun _ => Modest.zero, by simp, by simp⟩⟩
end
end Go.Proofs.YtcnggidihkcndaaGreatDoor.Fr
