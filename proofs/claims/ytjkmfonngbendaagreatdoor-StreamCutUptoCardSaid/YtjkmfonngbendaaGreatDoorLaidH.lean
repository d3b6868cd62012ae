/- What a laid array of words gives: its block, as a row. No word of the program here. -/
import Derived.Test.YtjkmfonngbendaaGreatDoorShaB
import Derived.OpenShut
import Derived.FnData
import GoSem.ClaimJoined
namespace Go.Proofs.YtjkmfonngbendaaGreatDoor.Hk
set_option linter.unusedVariables false
theorem cells_of_trod {H : Type} {enc : TypeId × Value → H} {P : Program} {w : World} {base fuel n : Nat} {spare : Nat → Bool} {held : Bool} {T e : TypeId} {cs : List Value} {l : List (BitVec 32)} {p : List MemPlace}
    (hT : P.underlying T = some (.array n e)) (he : P.underlying e = some (.int .u32)) (hc : P.cellsOf e = 1) (hcT : P.cellsOf T = n)
    (h : DataW.trod enc P w base spare held fuel T cs = some (.agg (l.map fun x => .lit (.int .u32 (vN x))), p)) : cs = l.map fun x => Value.int .u32 (vN x) := by
  obtain ⟨xs, m, _, hx, hlen, hn, hel⟩ := DataW.trod_array hT h
  have hx1 : (l.map fun x => (DataW.lit (.int .u32 (vN x)) : DataW H)) = xs.map (·.1) := by
    have := congrArg Prod.fst hx
    simpa using this
  have hl : l.length = n := by have := congrArg List.length hx1; simp at this; omega
  apply List.ext_getElem
  · rw [List.length_map]; omega
  intro i h1 h2
  have hi : i < n := by omega
  have hd := hel i hi
  rw [hc, Nat.mul_one, List.getElem?_eq_getElem (by omega)] at hd
  obtain ⟨k, e1, e2, _⟩ := DataW.trod_int he hd
  have e3 : (DataW.lit (.int .u32 (vN (l[i]'(by omega)))) : DataW H) = (xs[i]'(by omega)).1 := by
    have := congrArg (fun z => z[i]?) hx1
    simpa [List.getElem?_eq_getElem (show i < l.length by omega), List.getElem?_eq_getElem (show i < xs.length by omega)] using this
  rw [e2] at e3
  have hk : k = vN (l[i]'(by omega)) := by simpa using e3.symm
  have e4 : cs[i] = .int .u32 k := by
    have := congrArg (fun z => z[0]?) e1
    simpa [List.getElem?_eq_getElem h1] using this
  rw [e4, hk, List.getElem_map]
theorem row_of_laid {P : Program} {w : World} {n : String} {g : Nat} {cs : Array Value} {l : List (BitVec 32)} {ps : List MemPlace} (hg : P.globalNamed n = some g) (hv : w.var? P n = some cs) (hcs : cs.toList = l.map fun x => Value.int .u32 (vN x)) (hl : 0 < l.length)
    (hps : ∀ b off, MemPlace.cell b off ∈ ps → ∃ c t, w.heap[b]? = some (.cells c t (0, 0))) (hsub : ∀ x ∈ MemPlace.row ⟨g, 0, none⟩ cs.size, x ∈ ps) : ∃ t, Row w g t l := by
  have hsz : cs.size = l.length := by rw [← Array.length_toList, hcs, List.length_map]
  have hmem : MemPlace.cell g 0 ∈ ps := hsub _ (by
    unfold MemPlace.row
    rw [List.mem_map]
    exact ⟨0, by rw [List.mem_range]; omega, by simp⟩)
  obtain ⟨c, t, hc⟩ := hps g 0 hmem
  have hv' := hv
  simp only [World.var?, hg, Option.bind_some, hc, Option.some.injEq] at hv'
  subst hv'
  refine ⟨t, ?_⟩
  show w.heap[g]? = some (.cells (arr l) t (0, 0))
  rw [hc]
  congr 2
  unfold arr
  rw [← hcs, Array.toArray_toList]
end Go.Proofs.YtjkmfonngbendaaGreatDoor.Hk
