/- A region that draws its order, each of whose operations comes to one value in whatever world keeps S, and keeps S: one walk in the order of the text; calls may make memory. No word of the program here. -/
import Derived.Test.YtlchjohaacbkpaaGreatDoorReg
import Derived.Still
import Derived.StillTail
namespace Go.Proofs.YtlchjohaacbkpaaGreatDoor.Rg
set_option linter.unusedVariables false
open Go.RowKit
section
variable {P : Program} {ops : Array Oper} {md : Region.Mode} {S : World → Prop}
/-- what a step comes to, in the world w: v, S being kept -/
def Comes (P : Program) (S : World → Prop) (w : World) (v : Value) : Result Next → Prop
  | .ok (.value u) w' => u = v ∧ S w'
  | .ok .skip w' => v = undef ∧ S w'
  | .ok (.enter f args) w' => Calls P f args w' fun e w'' => e = .returned v ∧ S w''
  | _ => False
/-- in whatever world that keeps S -/
def OpG (P : Program) (ops : Array Oper) (S : World → Prop) (o : Oper) (v : Value) (a : Act) : Prop :=
  (Region.wanted o (yielded ops a.tmps) = true ∧ ∀ w, S w → Comes P S w v ((execOp a.eval o).run P w)) ∨ (Region.wanted o (yielded ops a.tmps) = false ∧ v = undef)
theorem OpG.same {o : Oper} {v : Value} {a a' : Act} (h : OpG P ops S o v a) (he : execOp a'.eval o = execOp a.eval o) (hw : Region.wanted o (yielded ops a'.tmps) = Region.wanted o (yielded ops a.tmps)) : OpG P ops S o v a' := by
  unfold OpG at *
  rw [he, hw]; exact h
def stG (P : Program) (ops : Array Oper) (S : World → Prop) (i : Nat) (K : Act → Prop) (a : Act) : Prop :=
  match ops[i]? with
  | none => K a
  | some o => ∃ v, OpG P ops S o v a ∧ K (a.put o.dst v)
theorem stG_at {i : Nat} {o : Oper} (ho : ops[i]? = some o) {K : Act → Prop} {a : Act} : stG P ops S i K a ↔ ∃ v, OpG P ops S o v a ∧ K (a.put o.dst v) := by
  unfold stG; rw [ho]
theorem stG_mono {i : Nat} {K K' : Act → Prop} {a : Act} (h : ∀ a, K a → K' a) (hh : stG P ops S i K a) : stG P ops S i K' a := by
  unfold stG at *
  split
  · rename_i e; rw [e] at hh; exact h _ hh
  · rename_i o e; rw [e] at hh; obtain ⟨v, h1, h2⟩ := hh; exact ⟨v, h1, h _ h2⟩
theorem OpG.wpOp {i : Nat} {o : Oper} {v : Value} {a : Act} {w : World} {Q : Exit → Act → World → Prop} {K : Act → World → Prop} (ho : ops[i]? = some o) (hg : OpG P ops S o v a) (hS : S w) (hK : ∀ w', S w' → K (a.put o.dst v) w') : wpOp P ops Q i K a w := by
  unfold Go.wpOp
  rw [ho]
  rcases hg with ⟨hw, hc⟩ | ⟨hw, rfl⟩
  · have hc := hc w hS
    simp only [hw, if_true]
    refine .inl ?_
    unfold Oper.wp
    generalize (execOp a.eval o).run P w = r at *
    cases r with
    | ok n w' =>
      cases n <;> simp only [Comes] at hc <;> simp only [Oper.upon]
      case value u => obtain ⟨rfl, h⟩ := hc; exact hK _ h
      case skip => obtain ⟨rfl, h⟩ := hc; exact hK _ h
      case enter f args => exact hc.mono fun e w'' ⟨he, h⟩ => by subst he; exact hK _ h
    | halt x w' => simp only [Comes] at hc
  · simp only [hw, Bool.false_eq_true, if_false]
    exact hK _ hS
def anyG (P : Program) (md : Region.Mode) (ops : Array Oper) (S : World → Prop) (Q : Act → Prop) : Nat → Array Bool → Act → Prop
  | 0, listed, a => Region.ready md ops listed = [] ∧ Q a
  | fuel + 1, listed, a => (Region.ready md ops listed = [] → Q a) ∧ ∀ i ∈ Region.ready md ops listed, stG P ops S i (anyG P md ops S Q fuel (listed.setIfInBounds i true)) a
theorem wpAny_of_G {Q : Act → Prop} {Q' : Exit → Act → World → Prop} (hQ : ∀ a w, Q a → S w → Q' .normal a w) : ∀ (fuel : Nat) (listed : Array Bool) (a : Act) (w : World), S w → anyG P md ops S Q fuel listed a → wpAny P md ops Q' fuel listed a w
  | 0, _, _, _, hS, h => ⟨h.1, hQ _ _ h.2 hS⟩
  | fuel + 1, listed, a, w, hS, h => ⟨fun h0 => hQ _ _ (h.1 h0) hS, fun i hi => by
      have h1 := h.2 i hi
      cases ho : ops[i]? with
      | none => unfold stG at h1; rw [ho] at h1; unfold wpOp; rw [ho]; exact wpAny_of_G hQ fuel _ _ _ hS h1
      | some o =>
        obtain ⟨v, hg, hn⟩ := (stG_at ho).1 h1
        exact hg.wpOp ho hS fun w' hS' => wpAny_of_G hQ fuel _ _ _ hS' hn⟩
/-- an operation apart from another: the value of the one in its slot makes no odds to the other -/
theorem stG_put {j : Nat} {oi oj : Oper} {v : Value} (hj : ops[j]? = some oj) (hap : oi.apart ops oj = true) (hsi : ∀ cs b, oi.op ≠ .select cs b) (hsj : ∀ cs b, oj.op ≠ .select cs b) {K : Act → Prop} {a : Act}
    (hy : OpG P ops S oi v a) (h : stG P ops S j K (a.put oi.dst v)) : stG P ops S j (fun a' => OpG P ops S oi v a' ∧ K (a'.put oi.dst v)) a := by
  obtain ⟨h1, h2, h3⟩ := Oper.apart_spec hap
  obtain ⟨u, hg, hk⟩ := (stG_at hj).1 h
  refine (stG_at hj).2 ⟨u, ?_, hy.same (execOp_put oi hsi a oj.dst u h3) (wanted_put oi a oj.dst u h3), ?_⟩
  · unfold OpG at *
    rw [wanted_put oj a oi.dst v h1, execOp_put oj hsj a oi.dst v h1] at hg
    exact hg
  · rw [← Act.put_comm a v u h2]; exact hk
theorem anyG_first {Q : Act → Prop} {i : Nat} {oi : Oper} {v : Value} (hi : ops[i]? = some oi) (hsel : ∀ (j : Nat) (o : Oper) cs b, ops[j]? = some o → o.op ≠ .select cs b) (fuel : Nat) :
    ∀ (listed : Array Bool) (a : Act),
      (∀ j oj, ops[j]? = some oj → j ≠ i → listed.getD j true = false → (∀ e ∈ oj.after, Region.binds md e = true → e.on ≠ i) → oi.apart ops oj = true) →
      i ∈ Region.ready md ops listed → OpG P ops S oi v a → anyG P md ops S Q fuel (listed.setIfInBounds i true) (a.put oi.dst v) → anyG P md ops S Q (fuel + 1) listed a := by
  induction fuel with
  | zero =>
    intro listed a _ hr hy H
    refine ⟨fun h => (by rw [h] at hr; cases hr), fun j hj => ?_⟩
    by_cases e : j = i
    · subst e; exact (stG_at hi).2 ⟨v, hy, H⟩
    · have := ready_mono hj e
      rw [H.1] at this
      cases this
  | succ fuel ih =>
    intro listed a hfree hr hy H
    refine ⟨fun h => (by rw [h] at hr; cases hr), fun j hj => ?_⟩
    by_cases e : j = i
    · subst e; exact (stG_at hi).2 ⟨v, hy, H⟩
    · obtain ⟨hun, oj, hoj, hall⟩ := mem_ready.1 hj
      have hnot : ∀ x ∈ oj.after, Region.binds md x = true → x.on ≠ i := fun x hx hb he => by
        have q1 := hall x hx hb
        have q0 := (mem_ready.1 hr).1
        rw [he] at q1
        rcases Nat.lt_or_ge i listed.size with h' | h'
        · simp [h'] at q0 q1; rw [q0] at q1; cases q1
        · simp [Array.getElem?_eq_none h'] at q1
      refine stG_mono (fun a' h3 => ih _ a' (fun k ok hk hki hku hno => hfree k ok hk hki ?_ hno) (ready_mono hr (Ne.symm e)) h3.1 ?_)
        (stG_put hoj (hfree j oj hoj e hun hnot) (fun cs b => hsel i oi cs b hi) (fun cs b => hsel j oj cs b hoj) hy (H.2 j (ready_mono hj e)))
      · by_cases hjk : j = k
        · subst hjk; exact hun
        · rw [getD_set_ne true hjk] at hku; exact hku
      · rw [Array.setIfInBounds_comm _ _ e]
        exact h3.2
/-- one walk, in the order of the text -/
def wpG (P : Program) (ops : Array Oper) (S : World → Prop) (Q : Act → Prop) : List Oper → Act → Prop
  | [], a => Q a
  | o :: rest, a => ∃ v, OpG P ops S o v a ∧ wpG P ops S Q rest (a.put o.dst v)
theorem anyG_lex {Q : Act → Prop} (hs : Region.noSelect ops = true) : ∀ (l : List Oper) (k : Nat) (listed : Array Bool) (a : Act), (∀ j, l[j]? = ops[k + j]?) →
    Region.lexFrom md ops l.length k listed = true → wpG P ops S Q l a → anyG P md ops S Q l.length listed a
  | [], _, _, _, _, hB, h => ⟨by simpa [Region.lexFrom] using hB, h⟩
  | o :: l, k, listed, a, hl, hB, ⟨v, hy, hn⟩ => by
    have h0 : ops[k]? = some o := by simpa using (hl 0).symm
    simp only [List.length_cons, Region.lexFrom, Bool.and_eq_true] at hB
    exact anyG_first h0 (Region.noSelect_spec hs) l.length listed a (Region.free_spec h0 hB.1.2) (by simpa using hB.1.1) hy
      (anyG_lex hs l (k + 1) _ _ (fun j => by have := hl (j + 1); simpa [Nat.add_assoc, Nat.add_comm 1 j] using this) hB.2 hn)
/-- THE REGION: what is left is the walk of its operations, and what comes behind it in whatever world that keeps S -/
theorem wp_region_G (S : World → Prop) {id : Nat} {Q : Exit → Act → World → Prop} {a : Act} {w : World} {l : List Oper} (hm : P.follows .mixedOrders = true) (hB : Region.lexB .any l.toArray = true) (hS : S w.drew)
    (h : wpG P l.toArray S (fun a' => ∀ w', S w' → Q .normal a' w') l a) : (Code.region id l.toArray true).wp P Q a w := by
  simp only [Region.lexB, Bool.and_eq_true] at hB
  refine wp_region_any hm (wpAny_of_G (S := S) (Q := fun a' => ∀ w', S w' → Q .normal a' w') (fun _ _ h hS => h _ hS) _ _ _ _ hS ?_)
  have := anyG_lex (md := .any) (P := P) (S := S) hB.1 l 0 (Array.replicate l.toArray.size false) a (by simp) (by simpa using hB.2) h
  simpa using this
variable {Q : Act → Prop} {o : Oper} {rest : List Oper}
theorem wpG_nil {a : Act} (h : Q a) : wpG P ops S Q [] a := h
theorem wpG_skip {tmps : Array Value} {n : Nat} (hd : o.dst = some n) (hw : Region.wanted o (yielded ops tmps) = false) (h : wpG P ops S Q rest { tmps := tmps.setIfInBounds n undef, defers := [] }) : wpG P ops S Q (o :: rest) { tmps := tmps, defers := [] } :=
  ⟨undef, .inr ⟨hw, rfl⟩, by rw [hd]; exact h⟩
theorem wpG_val {tmps : Array Value} {n : Nat} (v : Value) (hd : o.dst = some n) (hw : Region.wanted o (yielded ops tmps) = true) (hv : ∀ w, S w → (execOp (Act.eval { tmps := tmps, defers := [] }) o).run P w = .ok (.value v) w)
    (h : wpG P ops S Q rest { tmps := tmps.setIfInBounds n v, defers := [] }) : wpG P ops S Q (o :: rest) { tmps := tmps, defers := [] } :=
  ⟨v, .inl ⟨hw, fun w hS => by rw [hv w hS]; exact ⟨rfl, hS⟩⟩, by rw [hd]; exact h⟩
theorem wpG_call {tmps : Array Value} {n : Nat} (v : Value) (f : FuncId) (args : Array Value) (hd : o.dst = some n) (hw : Region.wanted o (yielded ops tmps) = true) (hv : ∀ w, (execOp (Act.eval { tmps := tmps, defers := [] }) o).run P w = .ok (.enter f args) w)
    (hc : ∀ w, S w → Calls P f args w fun e w' => e = .returned v ∧ S w')
    (h : wpG P ops S Q rest { tmps := tmps.setIfInBounds n v, defers := [] }) : wpG P ops S Q (o :: rest) { tmps := tmps, defers := [] } :=
  ⟨v, .inl ⟨hw, fun w hS => by rw [hv w]; exact hc w hS⟩, by rw [hd]; exact h⟩
end
end Go.Proofs.YtlchjohaacbkpaaGreatDoor.Rg
/- A region that draws its order: a head, beside which a condition S on the world is kept, and which may be made stronger; and a tail that waits for all of the head, and goes in its order. No word of the program here. -/
namespace Go.Proofs.YtlchjohaacbkpaaGreatDoor.Rg
set_option linter.unusedVariables false
open Go.RowKit
section
variable {P : Program} {ops : Array Oper} {Q : Exit → Act → World → Prop} {md : Region.Mode} {S : World → Prop} {n : Nat} {L : Array Bool → Act → World → Prop}
/-- the head's operations in whatever order, S kept; behind them L -/
def wpAnyT (P : Program) (md : Region.Mode) (ops : Array Oper) (Q : Exit → Act → World → Prop) (S : World → Prop) (n : Nat) (L : Array Bool → Act → World → Prop) : Nat → Array Bool → Act → World → Prop
  | 0, listed, a, w => L listed a w
  | f + 1, listed, a, w => Region.ready md ops listed ≠ [] ∧ ∀ i ∈ Region.ready md ops listed, i < n ∧ wpOp P ops Q i (fun a' w' => S w' ∧ wpAnyT P md ops Q S n L f (listed.setIfInBounds i true) a' w') a w
theorem wpAny_of_T {g : Nat} (hL : ∀ listed a w, L listed a w → wpAny P md ops Q g listed a w) : ∀ (f : Nat) (listed : Array Bool) (a : Act) (w : World), wpAnyT P md ops Q S n L f listed a w → wpAny P md ops Q (f + g) listed a w
  | 0, listed, a, w, h => by rw [Nat.zero_add]; exact hL _ _ _ h
  | f + 1, listed, a, w, h => by
    rw [show f + 1 + g = (f + g) + 1 by omega]
    exact ⟨fun h0 => absurd h0 h.1, fun i hi => wpOp_mono (fun a' w' h' => wpAny_of_T hL f _ a' w' h'.2) (h.2 i hi).2⟩
/-- S may be made stronger -/
theorem wpAnyT_mono {S' : World → Prop} (hS : ∀ w, S' w → S w) : ∀ (f : Nat) (listed : Array Bool) (a : Act) (w : World), wpAnyT P md ops Q S' n L f listed a w → wpAnyT P md ops Q S n L f listed a w
  | 0, _, _, _, h => h
  | f + 1, _, _, _, h => ⟨h.1, fun i hi => ⟨(h.2 i hi).1, wpOp_mono (fun a' w' h' => ⟨hS _ h'.1, wpAnyT_mono hS f _ a' w' h'.2⟩) (h.2 i hi).2⟩⟩
theorem wpAnyT_first {i : Nat} {oi : Oper} {v : Value} (hi : ops[i]? = some oi) (hsel : ∀ (j : Nat) (o : Oper) cs b, ops[j]? = some o → o.op ≠ .select cs b)
    (hs : Region.sinkB md ops n = true) (hc : Region.chainB md ops n = true) (hn : n < ops.size) (hin : i < n)
    (hQ : ∀ c a w, Q (.panic c) (a.put oi.dst v) w → Q (.panic c) a w)
    (hdone : ∀ listed a w, L listed a w → ∀ j ∈ Region.ready md ops listed, n ≤ j) :
    ∀ (f : Nat) (listed : Array Bool) (a : Act) (w : World), HeadInv md ops n listed →
      (∀ j oj, ops[j]? = some oj → j ≠ i → listed.getD j true = false → (∀ e ∈ oj.after, Region.binds md e = true → e.on ≠ i) → oi.apart ops oj = true) →
      i ∈ Region.ready md ops listed → YieldsIf P ops S oi v a → S w →
      wpAnyT P md ops Q S n L f (listed.setIfInBounds i true) (a.put oi.dst v) w → wpAnyT P md ops Q S n L (f + 1) listed a w := by
  intro f
  induction f with
  | zero =>
    intro listed a w inv _ hr hy hS H
    have hun := (mem_ready.1 hr).1
    refine ⟨fun h => (by rw [h] at hr; cases hr), fun j hj => ?_⟩
    have hjn : j < n := by
      rcases Nat.lt_or_ge j n with h | h
      · exact h
      · exact absurd hj (tail_waits hs hc hn inv _ i rfl hin hun j h)
    refine ⟨hjn, ?_⟩
    by_cases hji : j = i
    · subst hji; exact hy.wpOp hi hS ⟨hS, H⟩
    · have := hdone _ _ _ H j (ready_mono hj hji)
      omega
  | succ f ih =>
    intro listed a w inv hfree hr hy hS H
    have hun := (mem_ready.1 hr).1
    refine ⟨fun h => (by rw [h] at hr; cases hr), fun j hj => ?_⟩
    have hjn : j < n := by
      rcases Nat.lt_or_ge j n with h | h
      · exact h
      · exact absurd hj (tail_waits hs hc hn inv _ i rfl hin hun j h)
    refine ⟨hjn, ?_⟩
    by_cases hji : j = i
    · subst hji; exact hy.wpOp hi hS ⟨hS, H⟩
    · have h1 := (H.2 j (ready_mono hj hji)).2
      obtain ⟨hjun, oj, hoj, hall⟩ := mem_ready.1 hj
      have hnot : ∀ e ∈ oj.after, Region.binds md e = true → e.on ≠ i := fun e he hb heq => by
        have h1 := hall e he hb
        rw [heq, getD_both hun] at h1
        cases h1
      have h2 := wpOp_putIf hoj (hfree j oj hoj hji hjun hnot) (fun cs b => hsel i oi cs b hi) (fun cs b => hsel j oj cs b hoj) hQ hy h1
      have hfree' : ∀ k ok, ops[k]? = some ok → k ≠ i → (listed.setIfInBounds j true).getD k true = false →
          (∀ e ∈ ok.after, Region.binds md e = true → e.on ≠ i) → oi.apart ops ok = true := fun k ok hk hki hun hno => by
        refine hfree k ok hk hki ?_ hno
        by_cases hjk : j = k
        · subst hjk; exact hjun
        · rw [getD_set_ne true hjk] at hun; exact hun
      refine wpOp_mono (fun a' w' h3 => ⟨h3.2.1, ih (listed.setIfInBounds j true) a' w' (inv.set hj hjn) hfree' (ready_mono hr (Ne.symm hji)) h3.1 h3.2.1 ?_⟩) h2
      rw [Array.setIfInBounds_comm _ _ hji]
      exact h3.2.2
/-- what is known of a state of the walk: checked as it is met -/
def headB (md : Region.Mode) (ops : Array Oper) (n : Nat) (listed : Array Bool) : Bool :=
  decide (listed.size = ops.size) && ((List.range ops.size).all fun j => !listed.getD j false || match ops[j]? with
    | some oj => oj.after.all fun e => !Region.binds md e || listed.getD e.on false
    | none => true) && (List.range ops.size).all fun t => decide (t < n) || !listed.getD t true
theorem headB_inv {listed : Array Bool} (h : headB md ops n listed = true) : HeadInv md ops n listed := by
  unfold headB at h
  rw [Bool.and_eq_true, Bool.and_eq_true, decide_eq_true_iff, List.all_eq_true, List.all_eq_true] at h
  obtain ⟨⟨h1, h2⟩, h3⟩ := h
  refine ⟨h1, fun j oj hj hl e he hb => ?_, fun t ht ht' => ?_⟩
  · have := h2 j (List.mem_range.2 (Array.getElem?_eq_some_iff.1 hj).1)
    rw [hl, hj] at this
    simp only [Bool.not_true, Bool.false_or, Array.all_eq_true'] at this
    have := this e he
    rw [hb] at this
    simpa using this
  · have := h3 t (List.mem_range.2 ht')
    rw [Bool.or_eq_true, decide_eq_true_iff] at this
    rcases this with h | h
    · omega
    · simpa using h
/-- the tail, as it is run -/
def Tl (P : Program) (md : Region.Mode) (ops : Array Oper) (Q : Exit → Act → World → Prop) (n : Nat) (tail : List Oper) (listed : Array Bool) (a : Act) (w : World) : Prop := Region.seqB md ops tail.length n listed = true ∧ wpList P ops Q tail a w
/-- all that is asked of the region's form -/
def tailB (md : Region.Mode) (ops : Array Oper) (n : Nat) : Bool := Region.noSelect ops && decide (n < ops.size) && Region.sinkB md ops n && Region.chainB md ops n
theorem wp_region_T (S : World → Prop) {id : Nat} {a : Act} {w : World} {l : List Oper} (n : Nat) (hm : P.follows .mixedOrders = true) (hB : tailB .any l.toArray n = true)
    (h : wpAnyT P .any l.toArray Q S n (Tl P .any l.toArray Q n (l.drop n)) n (Array.replicate l.toArray.size false) a w.drew) : (Code.region id l.toArray true).wp P Q a w := by
  simp only [tailB, Bool.and_eq_true, decide_eq_true_eq] at hB
  obtain ⟨⟨⟨hsel, hn⟩, hs⟩, hc⟩ := hB
  have hn' : n < l.length := by simpa using hn
  have hdl : (l.drop n).length = l.toArray.size - n := by simp
  refine wp_region_any hm ?_
  have := wpAny_of_T (g := l.toArray.size - n) (fun listed a' w' hL => by
    have := wpAny_of_seq (md := .any) (Q' := Q) (l.drop n) n listed a' w' (fun j => by simp [List.getElem?_drop]) hL.1 hL.2
    rwa [hdl] at this) _ _ _ _ h
  rw [show n + (l.toArray.size - n) = l.toArray.size by omega] at this
  exact this
/-- an operation is taken ahead of the others -/
theorem take_T {f : Nat} {listed : Array Bool} {tmps : Array Value} {w : World} {tail : List Oper} (i d : Nat) (v : Value) {oi : Oper} (hi : ops[i]? = some oi) (hd : oi.dst = some d)
    (hB : tailB md ops n = true) (hin : i < n) (hI : headB md ops n listed = true)
    (hf : Region.free md ops listed i = true) (hr : (Region.ready md ops listed).contains i = true)
    (hQ : ∀ c a w, Q (.panic c) (a.put oi.dst v) w → Q (.panic c) a w) (hy : YieldsIf P ops S oi v { tmps := tmps, defers := [] }) (hS : S w)
    (h : wpAnyT P md ops Q S n (Tl P md ops Q n tail) f (listed.setIfInBounds i true) { tmps := tmps.setIfInBounds d v, defers := [] } w) : wpAnyT P md ops Q S n (Tl P md ops Q n tail) (f + 1) listed { tmps := tmps, defers := [] } w := by
  simp only [tailB, Bool.and_eq_true, decide_eq_true_eq] at hB
  obtain ⟨⟨⟨hsel, hn⟩, hs⟩, hc⟩ := hB
  refine wpAnyT_first hi (Region.noSelect_spec hsel) hs hc hn hin hQ (fun _ _ _ hL => seqB_ready hL.1) _ _ _ _ (headB_inv hI) (Region.free_spec hi hf) (by simpa using hr) hy hS ?_
  rw [hd]; exact h
/-- an operation that is the only one that can come up -/
theorem only_T {f : Nat} {listed : Array Bool} {tmps : Array Value} {w : World} (i : Nat) {oi : Oper} (hi : ops[i]? = some oi) (hr : Region.ready md ops listed = [i]) (hin : i < n) (hw : Region.wanted oi (yielded ops tmps) = true)
    (h : ∀ K : Act → World → Prop, Shut (∀ a' w', S w' → wpAnyT P md ops Q S n L f (listed.setIfInBounds i true) a' w' → K a' w') → Oper.wp P oi { tmps := tmps, defers := [] } w K Q) : wpAnyT P md ops Q S n L (f + 1) listed { tmps := tmps, defers := [] } w := by
  refine ⟨fun h0 => (by rw [hr] at h0; cases h0), fun j hj => ?_⟩
  rw [hr] at hj
  have hji : j = i := by simpa using hj
  subst hji
  refine ⟨hin, wpOp_step hi fun K' hK => ?_⟩
  rw [if_pos hw]
  exact h K' (fun a w hS hW => hK a w ⟨hS, hW⟩)
/-- the same in a region without a tail -/
theorem only_H {f : Nat} {listed : Array Bool} {tmps : Array Value} {w : World} (i : Nat) {oi : Oper} (hi : ops[i]? = some oi) (hr : Region.ready md ops listed = [i]) (hw : Region.wanted oi (yielded ops tmps) = true)
    (h : ∀ K : Act → World → Prop, Shut (∀ a' w', S w' → wpAnyH P md ops Q S f (listed.setIfInBounds i true) a' w' → K a' w') → Oper.wp P oi { tmps := tmps, defers := [] } w K Q) : wpAnyH P md ops Q S (f + 1) listed { tmps := tmps, defers := [] } w := by
  refine ⟨fun h0 => (by rw [hr] at h0; cases h0), fun j hj => ?_⟩
  rw [hr] at hj
  have hji : j = i := by simpa using hj
  subst hji
  refine wpOp_step hi fun K' hK => ?_
  rw [if_pos hw]
  exact h K' (fun a w hS hW => hK a w ⟨hS, hW⟩)
theorem wpAnyH_mono {S' : World → Prop} (hS : ∀ w, S' w → S w) : ∀ (f : Nat) (listed : Array Bool) (a : Act) (w : World), wpAnyH P md ops Q S' f listed a w → wpAnyH P md ops Q S f listed a w
  | 0, _, _, _, h => h
  | f + 1, _, _, _, h => ⟨h.1, fun i hi => wpOp_mono (fun a' w' h' => ⟨hS _ h'.1, wpAnyH_mono hS f _ a' w' h'.2⟩) (h.2 i hi)⟩
/-- the tail begins -/
theorem done_T {listed : Array Bool} {a : Act} {w : World} {tail : List Oper} (hq : Region.seqB md ops tail.length n listed = true) (h : wpList P ops Q tail a w) : wpAnyT P md ops Q S n (Tl P md ops Q n tail) 0 listed a w := ⟨hq, h⟩
end
end Go.Proofs.YtlchjohaacbkpaaGreatDoor.Rg
/- A region that draws its order: a head, each of whose operations comes to one value in whatever world keeps S (calls that make memory among them), S being kept; and a tail that waits for all of the head, and goes in its order. ONE walk in the order of the text. No word of the program here. -/
namespace Go.Proofs.YtlchjohaacbkpaaGreatDoor.Rg
set_option linter.unusedVariables false
open Go.RowKit
section
variable {P : Program} {ops : Array Oper} {md : Region.Mode} {S : World → Prop} {n : Nat} {L : Array Bool → Act → Prop}
def anyS (P : Program) (md : Region.Mode) (ops : Array Oper) (S : World → Prop) (n : Nat) (L : Array Bool → Act → Prop) : Nat → Array Bool → Act → Prop
  | 0, listed, a => L listed a
  | f + 1, listed, a => Region.ready md ops listed ≠ [] ∧ ∀ i ∈ Region.ready md ops listed, i < n ∧ stG P ops S i (anyS P md ops S n L f (listed.setIfInBounds i true)) a
theorem wpAny_of_S {g : Nat} {Q : Exit → Act → World → Prop} (hL : ∀ listed a w, L listed a → S w → wpAny P md ops Q g listed a w) : ∀ (f : Nat) (listed : Array Bool) (a : Act) (w : World), S w → anyS P md ops S n L f listed a → wpAny P md ops Q (f + g) listed a w
  | 0, listed, a, w, hS, h => by rw [Nat.zero_add]; exact hL _ _ _ h hS
  | f + 1, listed, a, w, hS, h => by
    rw [show f + 1 + g = (f + g) + 1 by omega]
    refine ⟨fun h0 => absurd h0 h.1, fun i hi => ?_⟩
    have h1 := (h.2 i hi).2
    cases ho : ops[i]? with
    | none => unfold stG at h1; rw [ho] at h1; unfold wpOp; rw [ho]; exact wpAny_of_S hL f _ _ _ hS h1
    | some o =>
      obtain ⟨v, hg, hn⟩ := (stG_at ho).1 h1
      exact hg.wpOp ho hS fun w' hS' => wpAny_of_S hL f _ _ _ hS' hn
theorem anyS_first {i : Nat} {oi : Oper} {v : Value} (hi : ops[i]? = some oi) (hsel : ∀ (j : Nat) (o : Oper) cs b, ops[j]? = some o → o.op ≠ .select cs b)
    (hs : Region.sinkB md ops n = true) (hc : Region.chainB md ops n = true) (hn : n < ops.size) (hin : i < n)
    (hdone : ∀ listed a, L listed a → ∀ j ∈ Region.ready md ops listed, n ≤ j) :
    ∀ (f : Nat) (listed : Array Bool) (a : Act), HeadInv md ops n listed →
      (∀ j oj, ops[j]? = some oj → j ≠ i → listed.getD j true = false → (∀ e ∈ oj.after, Region.binds md e = true → e.on ≠ i) → oi.apart ops oj = true) →
      i ∈ Region.ready md ops listed → OpG P ops S oi v a →
      anyS P md ops S n L f (listed.setIfInBounds i true) (a.put oi.dst v) → anyS P md ops S n L (f + 1) listed a := by
  intro f
  induction f with
  | zero =>
    intro listed a inv _ hr hy H
    have hun := (mem_ready.1 hr).1
    refine ⟨fun h => (by rw [h] at hr; cases hr), fun j hj => ?_⟩
    have hjn : j < n := by
      rcases Nat.lt_or_ge j n with h | h
      · exact h
      · exact absurd hj (tail_waits hs hc hn inv _ i rfl hin hun j h)
    refine ⟨hjn, ?_⟩
    by_cases hji : j = i
    · subst hji; exact (stG_at hi).2 ⟨v, hy, H⟩
    · have := hdone _ _ H j (ready_mono hj hji)
      omega
  | succ f ih =>
    intro listed a inv hfree hr hy H
    have hun := (mem_ready.1 hr).1
    refine ⟨fun h => (by rw [h] at hr; cases hr), fun j hj => ?_⟩
    have hjn : j < n := by
      rcases Nat.lt_or_ge j n with h | h
      · exact h
      · exact absurd hj (tail_waits hs hc hn inv _ i rfl hin hun j h)
    refine ⟨hjn, ?_⟩
    by_cases hji : j = i
    · subst hji; exact (stG_at hi).2 ⟨v, hy, H⟩
    · have h1 := (H.2 j (ready_mono hj hji)).2
      obtain ⟨hjun, oj, hoj, hall⟩ := mem_ready.1 hj
      have hnot : ∀ e ∈ oj.after, Region.binds md e = true → e.on ≠ i := fun e he hb heq => by
        have h1 := hall e he hb
        rw [heq, getD_both hun] at h1
        cases h1
      have h2 := stG_put hoj (hfree j oj hoj hji hjun hnot) (fun cs b => hsel i oi cs b hi) (fun cs b => hsel j oj cs b hoj) hy h1
      have hfree' : ∀ k ok, ops[k]? = some ok → k ≠ i → (listed.setIfInBounds j true).getD k true = false →
          (∀ e ∈ ok.after, Region.binds md e = true → e.on ≠ i) → oi.apart ops ok = true := fun k ok hk hki hun hno => by
        refine hfree k ok hk hki ?_ hno
        by_cases hjk : j = k
        · subst hjk; exact hjun
        · rw [getD_set_ne true hjk] at hun; exact hun
      refine stG_mono (fun a' h3 => ih (listed.setIfInBounds j true) a' (inv.set hj hjn) hfree' (ready_mono hr (Ne.symm hji)) h3.1 ?_) h2
      rw [Array.setIfInBounds_comm _ _ hji]
      exact h3.2
/-- what is asked of the region's form, step by step: m operations of the head are left, k is the next one, g are the tail's -/
def lexSB (md : Region.Mode) (ops : Array Oper) (n g : Nat) : Nat → Nat → Array Bool → Bool
  | 0, _, listed => Region.seqB md ops g n listed
  | m + 1, k, listed => decide (k < n) && (Region.ready md ops listed).contains k && Region.free md ops listed k && headB md ops n listed && lexSB md ops n g m (k + 1) (listed.setIfInBounds k true)
theorem anyS_lex {Q : Act → Prop} {g : Nat} (hB : tailB md ops n = true) : ∀ (l : List Oper) (k : Nat) (listed : Array Bool) (a : Act), (∀ j, j < l.length → l[j]? = ops[k + j]?) →
    lexSB md ops n g l.length k listed = true → wpG P ops S Q l a → anyS P md ops S n (fun listed a => Region.seqB md ops g n listed = true ∧ Q a) l.length listed a
  | [], _, _, _, _, hX, h => ⟨hX, h⟩
  | o :: l, k, listed, a, hl, hX, ⟨v, hy, hn⟩ => by
    have h0 : ops[k]? = some o := by simpa using (hl 0 (by simp)).symm
    have hB' := hB
    simp only [tailB, Bool.and_eq_true, decide_eq_true_eq] at hB'
    obtain ⟨⟨⟨hsel, hn'⟩, hs⟩, hc⟩ := hB'
    simp only [List.length_cons, lexSB, Bool.and_eq_true, decide_eq_true_eq] at hX
    obtain ⟨⟨⟨⟨hk, hr⟩, hf⟩, hI⟩, hX⟩ := hX
    refine anyS_first h0 (Region.noSelect_spec hsel) hs hc hn' hk (fun _ _ hL => seqB_ready hL.1) l.length listed a (headB_inv hI) (Region.free_spec h0 hf) (by simpa using hr) hy ?_
    exact anyS_lex hB l (k + 1) _ _ (fun j hj => by have := hl (j + 1) (by simpa using hj); simpa [Nat.add_assoc, Nat.add_comm 1 j] using this) hX hn
/-- THE REGION -/
theorem wp_region_S (S : World → Prop) {id : Nat} {Q : Exit → Act → World → Prop} {a : Act} {w : World} {l : List Oper} (n : Nat) (hm : P.follows .mixedOrders = true) (hB : tailB .any l.toArray n = true)
    (hX : lexSB .any l.toArray n (l.length - n) n 0 (Array.replicate l.toArray.size false) = true) (hS : S w.drew)
    (h : wpG P l.toArray S (fun a' => ∀ w', S w' → wpList P l.toArray Q (l.drop n) a' w') (l.take n) a) : (Code.region id l.toArray true).wp P Q a w := by
  have hB' := hB
  simp only [tailB, Bool.and_eq_true, decide_eq_true_eq] at hB'
  obtain ⟨⟨⟨hsel, hn⟩, hs⟩, hc⟩ := hB'
  have hn' : n < l.length := by simpa using hn
  have hlen : (l.take n).length = n := by rw [List.length_take]; omega
  have hdl : (l.drop n).length = l.length - n := by simp
  refine wp_region_any hm ?_
  have h2 := anyS_lex (md := .any) (P := P) (S := S) (n := n) (g := l.length - n) hB (l.take n) 0 (Array.replicate l.toArray.size false) a (fun j hj => by
    rw [List.getElem?_take, if_pos (by omega)]; simp) (by rw [hlen]; exact hX) h
  rw [hlen] at h2
  have h3 := wpAny_of_S (g := l.length - n) (Q := Q) (fun listed a' w' hL hSw => by
    have := wpAny_of_seq (md := .any) (P := P) (Q' := Q) (l.drop n) n listed a' w' (fun j => by simp [List.getElem?_drop]) (by rw [hdl]; exact hL.1) (hL.2 w' hSw)
    rwa [hdl] at this) n _ _ _ hS h2
  rw [show n + (l.length - n) = l.toArray.size by simp; omega] at h3
  exact h3
end
end Go.Proofs.YtlchjohaacbkpaaGreatDoor.Rg
