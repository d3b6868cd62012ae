/- Steps of a region that draws its order, by hand: an operation taken first; an operation that comes up, with what it yields. -/
import Derived.Test.YtjkmfonngbendaaGreatDoorRows
import Derived.WalkKit
import Derived.ProofKit
import Derived.Deep.RegionHeld3
namespace Go.Proofs.YtjkmfonngbendaaGreatDoor.Rg
theorem take_at {P : Program} {ops : Array Oper} {Q : Exit → Act → World → Prop} {md : Region.Mode} {S : World → Prop} {fuel : Nat} {listed : Array Bool} {tmps : Array Value} {w : World} (i n : Nat) (v : Value) {oi : Oper} (hi : ops[i]? = some oi) (hd : oi.dst = some n)
    (hs : Region.noSelect ops = true) (hf : Region.free md ops listed i = true) (hr : (Region.ready md ops listed).contains i = true)
    (hQ : ∀ c a w, Q (.panic c) (a.put oi.dst v) w → Q (.panic c) a w) (hy : YieldsIf P ops S oi v { tmps := tmps, defers := [] }) (hS : S w)
    (h : wpAnyH P md ops Q S fuel (listed.setIfInBounds i true) { tmps := tmps.setIfInBounds n v, defers := [] } w) : wpAnyH P md ops Q S (fuel + 1) listed { tmps := tmps, defers := [] } w := by
  refine wpAnyH_take hi hs hf hr hQ hy hS ?_
  rw [hd]
  exact h
theorem all_at {P : Program} {ops : Array Oper} {Q : Exit → Act → World → Prop} {md : Region.Mode} {S : World → Prop} {fuel : Nat} {listed : Array Bool} {tmps : Array Value} {w : World} {rs : List Nat} (i n : Nat) (v : Value) (w' : World) {oi : Oper} (hi : ops[i]? = some oi) (hd : oi.dst = some n)
    (hw : Region.wanted oi (yielded ops tmps) = true) (hrun : (execOp (Act.eval { tmps := tmps, defers := [] }) oi).run P w = .ok (.value v) w') (hS : S w')
    (h : S w' → wpAnyH P md ops Q S fuel (listed.setIfInBounds i true) { tmps := tmps.setIfInBounds n v, defers := [] } w')
    (hs : AllReadyH P md ops Q S fuel listed { tmps := tmps, defers := [] } w rs) : AllReadyH P md ops Q S fuel listed { tmps := tmps, defers := [] } w (i :: rs) :=
  AllReadyH.cons hi (fun K' hK => by
    rw [if_pos hw]
    unfold Oper.wp
    rw [hrun, Oper.upon_value, hd]
    exact hK.out _ _ hS h) hs
theorem all_at_none {P : Program} {ops : Array Oper} {Q : Exit → Act → World → Prop} {md : Region.Mode} {S : World → Prop} {fuel : Nat} {listed : Array Bool} {tmps : Array Value} {w : World} {rs : List Nat} (i : Nat) (v : Value) (w' : World) {oi : Oper} (hi : ops[i]? = some oi) (hd : oi.dst = none)
    (hw : Region.wanted oi (yielded ops tmps) = true) (hrun : (execOp (Act.eval { tmps := tmps, defers := [] }) oi).run P w = .ok (.value v) w') (hS : S w')
    (h : S w' → wpAnyH P md ops Q S fuel (listed.setIfInBounds i true) { tmps := tmps, defers := [] } w')
    (hs : AllReadyH P md ops Q S fuel listed { tmps := tmps, defers := [] } w rs) : AllReadyH P md ops Q S fuel listed { tmps := tmps, defers := [] } w (i :: rs) :=
  AllReadyH.cons hi (fun K' hK => by
    rw [if_pos hw]
    unfold Oper.wp
    rw [hrun, Oper.upon_value, hd]
    exact hK.out _ _ hS h) hs
theorem all_wp {P : Program} {ops : Array Oper} {Q : Exit → Act → World → Prop} {md : Region.Mode} {S : World → Prop} {fuel : Nat} {listed : Array Bool} {a : Act} {w : World} {rs : List Nat} (i : Nat) (a' : Act) (w' : World) {oi : Oper} (hi : ops[i]? = some oi)
    (hw : Region.wanted oi (yielded ops a.tmps) = true) (hwp : ∀ K' : Act → World → Prop, K' a' w' → Oper.wp P oi a w K' Q) (hS : S w')
    (h : S w' → wpAnyH P md ops Q S fuel (listed.setIfInBounds i true) a' w')
    (hs : AllReadyH P md ops Q S fuel listed a w rs) : AllReadyH P md ops Q S fuel listed a w (i :: rs) :=
  AllReadyH.cons hi (fun K' hK => by
    rw [if_pos hw]
    exact hwp K' (hK.out _ _ hS h)) hs
theorem all_nil {P : Program} {ops : Array Oper} {Q : Exit → Act → World → Prop} {md : Region.Mode} {S : World → Prop} {fuel : Nat} {listed : Array Bool} {a : Act} {w : World} : AllReadyH P md ops Q S fuel listed a w [] := AllReadyH.nil
theorem load_run {P : Program} {ev : Operand → Value} {o : Oper} {w : World} (ty : TypeId) (x : Operand) (ho : o.op = .load ty x) (b off : Nat) (hx : ev x = .pointer (some ⟨b, off, none⟩)) (cs : List Value) (d : TypeDesc) (hc : w.rangeAt b off cs)
    (hu : P.underlying ty = some d) (hd : d.isRow = true) (hi : (P.info? ty).map (·.size) = some cs.length) : (execOp ev o).run P w = .ok (.value (.agg cs.toArray)) w := by
  unfold execOp
  simp only [ho, hx, Instr.loadAt, Instr.sureAddr, Sem.run_bind, Sem.run_pure, Result.andThen_ok, run_loadVar_mid w b off ty cs d hc hu hd hi]
end Go.Proofs.YtjkmfonngbendaaGreatDoor.Rg
