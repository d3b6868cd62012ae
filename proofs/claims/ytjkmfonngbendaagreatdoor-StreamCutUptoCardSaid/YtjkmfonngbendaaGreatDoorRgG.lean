/- A region that draws its order, each of whose operations comes to one value in whatever world keeps S, and keeps S: one walk in the order of the text; calls may make memory. No word of the program here. -/
import Derived.Still
import Derived.Test.YtjkmfonngbendaaGreatDoorReg
namespace Go.Proofs.YtjkmfonngbendaaGreatDoor.Rg
set_option linter.unusedVariables false
open Go.RowKit
section
variable {P : Program} {ops : Array Oper} {md : Region.Mode} {S : World → Prop}
/-- what a step comes to, in the world w: v, S being kept -/
def Comes (P : Program) (S : World → Prop) (w : World) (v : Value) : Result Next → Prop
  | .ok (.value u) w' => u = v ∧ S w'
  | .ok .skip w' => v = undef ∧ S w'
  | .ok (.enter f args) w' => Calls P f args w' fun e w'' => e = .returned v ∧ S w''
  | _ => False
/-- in whatever world that keeps S -/
def OpG (P : Program) (ops : Array Oper) (S : World → Prop) (o : Oper) (v : Value) (a : Act) : Prop :=
  (Region.wanted o (yielded ops a.tmps) = true ∧ ∀ w, S w → Comes P S w v ((execOp a.eval o).run P w)) ∨ (Region.wanted o (yielded ops a.tmps) = false ∧ v = undef)
theorem OpG.same {o : Oper} {v : Value} {a a' : Act} (h : OpG P ops S o v a) (he : execOp a'.eval o = execOp a.eval o) (hw : Region.wanted o (yielded ops a'.tmps) = Region.wanted o (yielded ops a.tmps)) : OpG P ops S o v a' := by
  unfold OpG at *
  rw [he, hw]; exact h
def stG (P : Program) (ops : Array Oper) (S : World → Prop) (i : Nat) (K : Act → Prop) (a : Act) : Prop :=
  match ops[i]? with
  | none => K a
  | some o => ∃ v, OpG P ops S o v a ∧ K (a.put o.dst v)
theorem stG_at {i : Nat} {o : Oper} (ho : ops[i]? = some o) {K : Act → Prop} {a : Act} : stG P ops S i K a ↔ ∃ v, OpG P ops S o v a ∧ K (a.put o.dst v) := by
  unfold stG; rw [ho]
theorem stG_mono {i : Nat} {K K' : Act → Prop} {a : Act} (h : ∀ a, K a → K' a) (hh : stG P ops S i K a) : stG P ops S i K' a := by
  unfold stG at *
  split
  · rename_i e; rw [e] at hh; exact h _ hh
  · rename_i o e; rw [e] at hh; obtain ⟨v, h1, h2⟩ := hh; exact ⟨v, h1, h _ h2⟩
theorem OpG.wpOp {i : Nat} {o : Oper} {v : Value} {a : Act} {w : World} {Q : Exit → Act → World → Prop} {K : Act → World → Prop} (ho : ops[i]? = some o) (hg : OpG P ops S o v a) (hS : S w) (hK : ∀ w', S w' → K (a.put o.dst v) w') : wpOp P ops Q i K a w := by
  unfold Go.wpOp
  rw [ho]
  rcases hg with ⟨hw, hc⟩ | ⟨hw, rfl⟩
  · have hc := hc w hS
    simp only [hw, if_true]
    refine .inl ?_
    unfold Oper.wp
    generalize (execOp a.eval o).run P w = r at *
    cases r with
    | ok n w' =>
      cases n <;> simp only [Comes] at hc <;> simp only [Oper.upon]
      case value u => obtain ⟨rfl, h⟩ := hc; exact hK _ h
      case skip => obtain ⟨rfl, h⟩ := hc; exact hK _ h
      case enter f args => exact hc.mono fun e w'' ⟨he, h⟩ => by subst he; exact hK _ h
    | halt x w' => simp only [Comes] at hc
  · simp only [hw, Bool.false_eq_true, if_false]
    exact hK _ hS
def anyG (P : Program) (md : Region.Mode) (ops : Array Oper) (S : World → Prop) (Q : Act → Prop) : Nat → Array Bool → Act → Prop
  | 0, listed, a => Region.ready md ops listed = [] ∧ Q a
  | fuel + 1, listed, a => (Region.ready md ops listed = [] → Q a) ∧ ∀ i ∈ Region.ready md ops listed, stG P ops S i (anyG P md ops S Q fuel (listed.setIfInBounds i true)) a
theorem wpAny_of_G {Q : Act → Prop} {Q' : Exit → Act → World → Prop} (hQ : ∀ a w, Q a → S w → Q' .normal a w) : ∀ (fuel : Nat) (listed : Array Bool) (a : Act) (w : World), S w → anyG P md ops S Q fuel listed a → wpAny P md ops Q' fuel listed a w
  | 0, _, _, _, hS, h => ⟨h.1, hQ _ _ h.2 hS⟩
  | fuel + 1, listed, a, w, hS, h => ⟨fun h0 => hQ _ _ (h.1 h0) hS, fun i hi => by
      have h1 := h.2 i hi
      cases ho : ops[i]? with
      | none => unfold stG at h1; rw [ho] at h1; unfold wpOp; rw [ho]; exact wpAny_of_G hQ fuel _ _ _ hS h1
      | some o =>
        obtain ⟨v, hg, hn⟩ := (stG_at ho).1 h1
        exact hg.wpOp ho hS fun w' hS' => wpAny_of_G hQ fuel _ _ _ hS' hn⟩
/-- an operation apart from another: the value of the one in its slot makes no odds to the other -/
theorem stG_put {j : Nat} {oi oj : Oper} {v : Value} (hj : ops[j]? = some oj) (hap : oi.apart ops oj = true) (hsi : ∀ cs b, oi.op ≠ .select cs b) (hsj : ∀ cs b, oj.op ≠ .select cs b) {K : Act → Prop} {a : Act}
    (hy : OpG P ops S oi v a) (h : stG P ops S j K (a.put oi.dst v)) : stG P ops S j (fun a' => OpG P ops S oi v a' ∧ K (a'.put oi.dst v)) a := by
  obtain ⟨h1, h2, h3⟩ := Oper.apart_spec hap
  obtain ⟨u, hg, hk⟩ := (stG_at hj).1 h
  refine (stG_at hj).2 ⟨u, ?_, hy.same (execOp_put oi hsi a oj.dst u h3) (wanted_put oi a oj.dst u h3), ?_⟩
  · unfold OpG at *
    rw [wanted_put oj a oi.dst v h1, execOp_put oj hsj a oi.dst v h1] at hg
    exact hg
  · rw [← Act.put_comm a v u h2]; exact hk
theorem anyG_first {Q : Act → Prop} {i : Nat} {oi : Oper} {v : Value} (hi : ops[i]? = some oi) (hsel : ∀ (j : Nat) (o : Oper) cs b, ops[j]? = some o → o.op ≠ .select cs b) (fuel : Nat) :
    ∀ (listed : Array Bool) (a : Act),
      (∀ j oj, ops[j]? = some oj → j ≠ i → listed.getD j true = false → (∀ e ∈ oj.after, Region.binds md e = true → e.on ≠ i) → oi.apart ops oj = true) →
      i ∈ Region.ready md ops listed → OpG P ops S oi v a → anyG P md ops S Q fuel (listed.setIfInBounds i true) (a.put oi.dst v) → anyG P md ops S Q (fuel + 1) listed a := by
  induction fuel with
  | zero =>
    intro listed a _ hr hy H
    refine ⟨fun h => (by rw [h] at hr; cases hr), fun j hj => ?_⟩
    by_cases e : j = i
    · subst e; exact (stG_at hi).2 ⟨v, hy, H⟩
    · have := ready_mono hj e
      rw [H.1] at this
      cases this
  | succ fuel ih =>
    intro listed a hfree hr hy H
    refine ⟨fun h => (by rw [h] at hr; cases hr), fun j hj => ?_⟩
    by_cases e : j = i
    · subst e; exact (stG_at hi).2 ⟨v, hy, H⟩
    · obtain ⟨hun, oj, hoj, hall⟩ := mem_ready.1 hj
      have hnot : ∀ x ∈ oj.after, Region.binds md x = true → x.on ≠ i := fun x hx hb he => by
        have q1 := hall x hx hb
        have q0 := (mem_ready.1 hr).1
        rw [he] at q1
        rcases Nat.lt_or_ge i listed.size with h' | h'
        · simp [h'] at q0 q1; rw [q0] at q1; cases q1
        · simp [Array.getElem?_eq_none h'] at q1
      refine stG_mono (fun a' h3 => ih _ a' (fun k ok hk hki hku hno => hfree k ok hk hki ?_ hno) (ready_mono hr (Ne.symm e)) h3.1 ?_)
        (stG_put hoj (hfree j oj hoj e hun hnot) (fun cs b => hsel i oi cs b hi) (fun cs b => hsel j oj cs b hoj) hy (H.2 j (ready_mono hj e)))
      · by_cases hjk : j = k
        · subst hjk; exact hun
        · rw [getD_set_ne true hjk] at hku; exact hku
      · rw [Array.setIfInBounds_comm _ _ e]
        exact h3.2
/-- one walk, in the order of the text -/
def wpG (P : Program) (ops : Array Oper) (S : World → Prop) (Q : Act → Prop) : List Oper → Act → Prop
  | [], a => Q a
  | o :: rest, a => ∃ v, OpG P ops S o v a ∧ wpG P ops S Q rest (a.put o.dst v)
theorem anyG_lex {Q : Act → Prop} (hs : Region.noSelect ops = true) : ∀ (l : List Oper) (k : Nat) (listed : Array Bool) (a : Act), (∀ j, l[j]? = ops[k + j]?) →
    Region.lexFrom md ops l.length k listed = true → wpG P ops S Q l a → anyG P md ops S Q l.length listed a
  | [], _, _, _, _, hB, h => ⟨by simpa [Region.lexFrom] using hB, h⟩
  | o :: l, k, listed, a, hl, hB, ⟨v, hy, hn⟩ => by
    have h0 : ops[k]? = some o := by simpa using (hl 0).symm
    simp only [List.length_cons, Region.lexFrom, Bool.and_eq_true] at hB
    exact anyG_first h0 (Region.noSelect_spec hs) l.length listed a (Region.free_spec h0 hB.1.2) (by simpa using hB.1.1) hy
      (anyG_lex hs l (k + 1) _ _ (fun j => by have := hl (j + 1); simpa [Nat.add_assoc, Nat.add_comm 1 j] using this) hB.2 hn)
/-- THE REGION: what is left is the walk of its operations, and what comes behind it in whatever world that keeps S -/
theorem wp_region_G (S : World → Prop) {id : Nat} {Q : Exit → Act → World → Prop} {a : Act} {w : World} {l : List Oper} (hm : P.follows .mixedOrders = true) (hB : Region.lexB .any l.toArray = true) (hS : S w.drew)
    (h : wpG P l.toArray S (fun a' => ∀ w', S w' → Q .normal a' w') l a) : (Code.region id l.toArray true).wp P Q a w := by
  simp only [Region.lexB, Bool.and_eq_true] at hB
  refine wp_region_any hm (wpAny_of_G (S := S) (Q := fun a' => ∀ w', S w' → Q .normal a' w') (fun _ _ h hS => h _ hS) _ _ _ _ hS ?_)
  have := anyG_lex (md := .any) (P := P) (S := S) hB.1 l 0 (Array.replicate l.toArray.size false) a (by simp) (by simpa using hB.2) h
  simpa using this
variable {Q : Act → Prop} {o : Oper} {rest : List Oper}
theorem wpG_nil {a : Act} (h : Q a) : wpG P ops S Q [] a := h
theorem wpG_skip {tmps : Array Value} {n : Nat} (hd : o.dst = some n) (hw : Region.wanted o (yielded ops tmps) = false) (h : wpG P ops S Q rest { tmps := tmps.setIfInBounds n undef, defers := [] }) : wpG P ops S Q (o :: rest) { tmps := tmps, defers := [] } :=
  ⟨undef, .inr ⟨hw, rfl⟩, by rw [hd]; exact h⟩
theorem wpG_val {tmps : Array Value} {n : Nat} (v : Value) (hd : o.dst = some n) (hw : Region.wanted o (yielded ops tmps) = true) (hv : ∀ w, S w → (execOp (Act.eval { tmps := tmps, defers := [] }) o).run P w = .ok (.value v) w)
    (h : wpG P ops S Q rest { tmps := tmps.setIfInBounds n v, defers := [] }) : wpG P ops S Q (o :: rest) { tmps := tmps, defers := [] } :=
  ⟨v, .inl ⟨hw, fun w hS => by rw [hv w hS]; exact ⟨rfl, hS⟩⟩, by rw [hd]; exact h⟩
theorem wpG_call {tmps : Array Value} {n : Nat} (v : Value) (f : FuncId) (args : Array Value) (hd : o.dst = some n) (hw : Region.wanted o (yielded ops tmps) = true) (hv : ∀ w, (execOp (Act.eval { tmps := tmps, defers := [] }) o).run P w = .ok (.enter f args) w)
    (hc : ∀ w, S w → Calls P f args w fun e w' => e = .returned v ∧ S w')
    (h : wpG P ops S Q rest { tmps := tmps.setIfInBounds n v, defers := [] }) : wpG P ops S Q (o :: rest) { tmps := tmps, defers := [] } :=
  ⟨v, .inl ⟨hw, fun w hS => by rw [hv w]; exact hc w hS⟩, by rw [hd]; exact h⟩
end
end Go.Proofs.YtjkmfonngbendaaGreatDoor.Rg
