/- A region that draws its order, beside which a condition on the world is kept that may change with what has come up. No word of the program here. -/
import Derived.Test.YtlpejbbmemhloaaGreatDoorRgT
namespace Go.Proofs.YtlpejbbmemhloaaGreatDoor.Rg
set_option linter.unusedVariables false
open Go.RowKit
section
variable {P : Program} {ops : Array Oper} {Q : Exit → Act → World → Prop} {md : Region.Mode} {S : Array Bool → World → Prop}
def wpAnyX (P : Program) (md : Region.Mode) (ops : Array Oper) (Q : Exit → Act → World → Prop) (S : Array Bool → World → Prop) : Nat → Array Bool → Act → World → Prop
  | 0, listed, a, w => Region.ready md ops listed = [] ∧ Q .normal a w
  | f + 1, listed, a, w => (Region.ready md ops listed = [] → Q .normal a w) ∧
    ∀ i ∈ Region.ready md ops listed, wpOp P ops Q i (fun a' w' => S (listed.setIfInBounds i true) w' ∧ wpAnyX P md ops Q S f (listed.setIfInBounds i true) a' w') a w
theorem wpAny_of_X : ∀ (f : Nat) (listed : Array Bool) (a : Act) (w : World), wpAnyX P md ops Q S f listed a w → wpAny P md ops Q f listed a w
  | 0, _, _, _, h => h
  | f + 1, _, _, _, h => ⟨h.1, fun i hi => wpOp_mono (fun a' w' h' => wpAny_of_X f _ a' w' h'.2) (h.2 i hi)⟩
/-- what has come up is closed: each has what it waits for -/
def Cl (md : Region.Mode) (ops : Array Oper) (l : Array Bool) : Prop := ∀ (j : Nat) (oj : Oper), ops[j]? = some oj → l.getD j false = true → ∀ e ∈ oj.after, Region.binds md e = true → l.getD e.on false = true
theorem Cl.set {l : Array Bool} (h : Cl md ops l) {j : Nat} (hj : j ∈ Region.ready md ops l) : Cl md ops (l.setIfInBounds j true) := fun k ok hk hl e he hb => by
  refine getD_set_true ?_
  by_cases ejk : j = k
  · subst ejk
    obtain ⟨_, oj, hoj, hall⟩ := mem_ready.1 hj
    rw [hk] at hoj
    cases hoj
    exact hall e he hb
  · refine h k ok hk ?_ e he hb
    rwa [getD_set_ne false ejk] at hl
def clB (md : Region.Mode) (ops : Array Oper) (listed : Array Bool) : Bool := (List.range ops.size).all fun j => !listed.getD j false || match ops[j]? with
    | some oj => oj.after.all fun e => !Region.binds md e || listed.getD e.on false
    | none => true
theorem clB_cl {listed : Array Bool} (h : clB md ops listed = true) : Cl md ops listed := fun j oj hj hl e he hb => by
  unfold clB at h
  rw [List.all_eq_true] at h
  have := h j (List.mem_range.2 (Array.getElem?_eq_some_iff.1 hj).1)
  rw [hl, hj] at this
  simp only [Bool.not_true, Bool.false_or, Array.all_eq_true'] at this
  have := this e he
  rw [hb] at this
  simpa using this
/-- S in whatever state in which i has not come up yet -/
def Bef (md : Region.Mode) (ops : Array Oper) (S : Array Bool → World → Prop) (i : Nat) (w : World) : Prop := ∃ l : Array Bool, Cl md ops l ∧ l.getD i true = false ∧ S l w
theorem wpAnyX_first {i : Nat} {oi : Oper} {v : Value} (hi : ops[i]? = some oi) (hsel : ∀ (j : Nat) (o : Oper) cs b, ops[j]? = some o → o.op ≠ .select cs b)
    (hQ : ∀ c a w, Q (.panic c) (a.put oi.dst v) w → Q (.panic c) a w) (hm : ∀ l w, S (l.setIfInBounds i true) w → S l w) :
    ∀ (fuel : Nat) (listed : Array Bool) (a : Act) (w : World), Cl md ops listed →
      (∀ j oj, ops[j]? = some oj → j ≠ i → listed.getD j true = false → (∀ e ∈ oj.after, Region.binds md e = true → e.on ≠ i) → oi.apart ops oj = true) →
      i ∈ Region.ready md ops listed → YieldsIf P ops (Bef md ops S i) oi v a → S (listed.setIfInBounds i true) w →
      wpAnyX P md ops Q S fuel (listed.setIfInBounds i true) (a.put oi.dst v) w → wpAnyX P md ops Q S (fuel + 1) listed a w := by
  intro fuel
  induction fuel with
  | zero =>
    intro listed a w hcl _ hr hy hS H
    have hun := (mem_ready.1 hr).1
    refine ⟨fun h => (by rw [h] at hr; cases hr), fun j hj => ?_⟩
    by_cases hji : j = i
    · subst hji; exact hy.wpOp hi ⟨listed, hcl, hun, hm _ _ hS⟩ ⟨hS, H⟩
    · have := ready_mono hj hji
      rw [H.1] at this
      cases this
  | succ fuel ih =>
    intro listed a w hcl hfree hr hy hS H
    have hun := (mem_ready.1 hr).1
    refine ⟨fun h => (by rw [h] at hr; cases hr), fun j hj => ?_⟩
    by_cases hji : j = i
    · subst hji; exact hy.wpOp hi ⟨listed, hcl, hun, hm _ _ hS⟩ ⟨hS, H⟩
    · have h1 := H.2 j (ready_mono hj hji)
      obtain ⟨hjun, oj, hoj, hall⟩ := mem_ready.1 hj
      have hnot : ∀ e ∈ oj.after, Region.binds md e = true → e.on ≠ i := fun e he hb heq => by
        have h1 := hall e he hb
        rw [heq, getD_both hun] at h1
        cases h1
      have h2 := wpOp_putIf hoj (hfree j oj hoj hji hjun hnot) (fun cs b => hsel i oi cs b hi) (fun cs b => hsel j oj cs b hoj) hQ hy h1
      have hfree' : ∀ k ok, ops[k]? = some ok → k ≠ i → (listed.setIfInBounds j true).getD k true = false →
          (∀ e ∈ ok.after, Region.binds md e = true → e.on ≠ i) → oi.apart ops ok = true := fun k ok hk hki hun hno => by
        refine hfree k ok hk hki ?_ hno
        by_cases hjk : j = k
        · subst hjk; exact hjun
        · rw [getD_set_ne true hjk] at hun; exact hun
      have hcm : (listed.setIfInBounds j true).setIfInBounds i true = (listed.setIfInBounds i true).setIfInBounds j true := Array.setIfInBounds_comm _ _ hji
      refine wpOp_mono (fun a' w' h3 => ⟨hm _ _ (by rw [hcm]; exact h3.2.1), ih (listed.setIfInBounds j true) a' w' (hcl.set hj) hfree' (ready_mono hr (Ne.symm hji)) h3.1 (by rw [hcm]; exact h3.2.1) ?_⟩) h2
      rw [hcm]
      exact h3.2.2
/-- the region begins -/
theorem wp_region_X (S : Array Bool → World → Prop) {id : Nat} {a : Act} {w : World} (hm : P.follows .mixedOrders = true) (h : wpAnyX P .any ops Q S ops.size (Array.replicate ops.size false) a w.drew) : (Code.region id ops true).wp P Q a w :=
  wp_region_any hm (wpAny_of_X _ _ _ _ h)
/-- an operation is taken ahead of the others -/
theorem take_X {fuel : Nat} {listed : Array Bool} {tmps : Array Value} {w : World} (i d : Nat) (v : Value) {oi : Oper} (hi : ops[i]? = some oi) (hd : oi.dst = some d)
    (hs : Region.noSelect ops = true) (hf : Region.free md ops listed i = true) (hr : (Region.ready md ops listed).contains i = true) (hc : clB md ops listed = true)
    (hQ : ∀ c a w, Q (.panic c) (a.put oi.dst v) w → Q (.panic c) a w) (hm : ∀ l w, S (l.setIfInBounds i true) w → S l w) (hy : YieldsIf P ops (Bef md ops S i) oi v { tmps := tmps, defers := [] }) (hS : S (listed.setIfInBounds i true) w)
    (h : wpAnyX P md ops Q S fuel (listed.setIfInBounds i true) { tmps := tmps.setIfInBounds d v, defers := [] } w) : wpAnyX P md ops Q S (fuel + 1) listed { tmps := tmps, defers := [] } w := by
  refine wpAnyX_first hi (Region.noSelect_spec hs) hQ hm _ _ _ _ (clB_cl hc) (Region.free_spec hi hf) (by simpa using hr) hy hS ?_
  rw [hd]
  exact h
/-- an operation that is the only one that can come up -/
theorem only_X {f : Nat} {listed : Array Bool} {tmps : Array Value} {w : World} (i : Nat) {oi : Oper} (hi : ops[i]? = some oi) (hr : Region.ready md ops listed = [i]) (hw : Region.wanted oi (yielded ops tmps) = true)
    (h : ∀ K : Act → World → Prop, Shut (∀ a' w', S (listed.setIfInBounds i true) w' → wpAnyX P md ops Q S f (listed.setIfInBounds i true) a' w' → K a' w') → Oper.wp P oi { tmps := tmps, defers := [] } w K Q) : wpAnyX P md ops Q S (f + 1) listed { tmps := tmps, defers := [] } w := by
  refine ⟨fun h0 => (by rw [hr] at h0; cases h0), fun j hj => ?_⟩
  rw [hr] at hj
  have hji : j = i := by simpa using hj
  subst hji
  refine wpOp_step hi fun K' hK => ?_
  rw [if_pos hw]
  exact h K' (fun a w hS hW => hK a w ⟨hS, hW⟩)
/-- two that can come up -/
theorem two_X {f : Nat} {listed : Array Bool} {tmps : Array Value} {w : World} (i j : Nat) {oi oj : Oper} (hi : ops[i]? = some oi) (hj : ops[j]? = some oj) (hr : Region.ready md ops listed = [i, j])
    (hwi : Region.wanted oi (yielded ops tmps) = true) (hwj : Region.wanted oj (yielded ops tmps) = true)
    (h1 : ∀ K : Act → World → Prop, Shut (∀ a' w', S (listed.setIfInBounds i true) w' → wpAnyX P md ops Q S f (listed.setIfInBounds i true) a' w' → K a' w') → Oper.wp P oi { tmps := tmps, defers := [] } w K Q)
    (h2 : ∀ K : Act → World → Prop, Shut (∀ a' w', S (listed.setIfInBounds j true) w' → wpAnyX P md ops Q S f (listed.setIfInBounds j true) a' w' → K a' w') → Oper.wp P oj { tmps := tmps, defers := [] } w K Q) :
    wpAnyX P md ops Q S (f + 1) listed { tmps := tmps, defers := [] } w := by
  refine ⟨fun h0 => (by rw [hr] at h0; cases h0), fun k hk => ?_⟩
  rw [hr] at hk
  rcases List.mem_cons.1 hk with rfl | hk
  · refine wpOp_step hi fun K' hK => ?_
    rw [if_pos hwi]
    exact h1 K' (fun a w hS hW => hK a w ⟨hS, hW⟩)
  · have hkj : k = j := by simpa using hk
    subst hkj
    refine wpOp_step hj fun K' hK => ?_
    rw [if_pos hwj]
    exact h2 K' (fun a w hS hW => hK a w ⟨hS, hW⟩)
theorem done_X {listed : Array Bool} {a : Act} {w : World} (hr : Region.ready md ops listed = []) (h : Q .normal a w) : ∀ fuel, wpAnyX P md ops Q S fuel listed a w
  | 0 => ⟨hr, h⟩
  | _ + 1 => ⟨fun _ => h, by rw [hr]; simp⟩
/-- S as long as one has not come up -/
def Till (k : Nat) (S0 : World → Prop) : Array Bool → World → Prop := fun l w => l.getD k false = false → S0 w
theorem Till.mono {k i : Nat} {S0 : World → Prop} (h : i ≠ k) : ∀ l w, Till k S0 (l.setIfInBounds i true) w → Till k S0 l w := fun l w hS h0 => hS (by rw [getD_set_ne false h]; exact h0)
theorem Till.bef {md : Region.Mode} {ops : Array Oper} {k i : Nat} {S0 : World → Prop} {w : World} (h : Bef md ops (Till k S0) i w) (hk : (match ops[k]? with | some ok => ok.after.any fun e => Region.binds md e && e.on == i | none => false) = true) : S0 w := by
  obtain ⟨l, hcl, hun, hS⟩ := h
  refine hS ?_
  cases hl : l.getD k false with
  | false => rfl
  | true =>
    cases hok : ops[k]? with
    | none => rw [hok] at hk; cases hk
    | some ok =>
      rw [hok] at hk
      simp only [Array.any_eq_true'] at hk
      obtain ⟨e, he, hq⟩ := hk
      rw [Bool.and_eq_true, beq_iff_eq] at hq
      obtain ⟨hb, rfl⟩ := hq
      have h2 := hcl k ok hok hl e he hb
      rw [getD_both hun] at h2
      cases h2
end
end Go.Proofs.YtlpejbbmemhloaaGreatDoor.Rg
