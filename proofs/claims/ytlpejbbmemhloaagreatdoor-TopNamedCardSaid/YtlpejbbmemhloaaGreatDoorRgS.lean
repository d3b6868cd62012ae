/- A region that draws its order: a head, each of whose operations comes to one value in whatever world keeps S (calls that make memory among them), S being kept; and a tail that waits for all of the head, and goes in its order. ONE walk in the order of the text. No word of the program here. -/
import Derived.Test.YtlpejbbmemhloaaGreatDoorRgT
namespace Go.Proofs.YtlpejbbmemhloaaGreatDoor.Rg
set_option linter.unusedVariables false
open Go.RowKit
section
variable {P : Program} {ops : Array Oper} {md : Region.Mode} {S : World → Prop} {n : Nat} {L : Array Bool → Act → Prop}
def anyS (P : Program) (md : Region.Mode) (ops : Array Oper) (S : World → Prop) (n : Nat) (L : Array Bool → Act → Prop) : Nat → Array Bool → Act → Prop
  | 0, listed, a => L listed a
  | f + 1, listed, a => Region.ready md ops listed ≠ [] ∧ ∀ i ∈ Region.ready md ops listed, i < n ∧ stG P ops S i (anyS P md ops S n L f (listed.setIfInBounds i true)) a
theorem wpAny_of_S {g : Nat} {Q : Exit → Act → World → Prop} (hL : ∀ listed a w, L listed a → S w → wpAny P md ops Q g listed a w) : ∀ (f : Nat) (listed : Array Bool) (a : Act) (w : World), S w → anyS P md ops S n L f listed a → wpAny P md ops Q (f + g) listed a w
  | 0, listed, a, w, hS, h => by rw [Nat.zero_add]; exact hL _ _ _ h hS
  | f + 1, listed, a, w, hS, h => by
    rw [show f + 1 + g = (f + g) + 1 by omega]
    refine ⟨fun h0 => absurd h0 h.1, fun i hi => ?_⟩
    have h1 := (h.2 i hi).2
    cases ho : ops[i]? with
    | none => unfold stG at h1; rw [ho] at h1; unfold wpOp; rw [ho]; exact wpAny_of_S hL f _ _ _ hS h1
    | some o =>
      obtain ⟨v, hg, hn⟩ := (stG_at ho).1 h1
      exact hg.wpOp ho hS fun w' hS' => wpAny_of_S hL f _ _ _ hS' hn
theorem anyS_first {i : Nat} {oi : Oper} {v : Value} (hi : ops[i]? = some oi) (hsel : ∀ (j : Nat) (o : Oper) cs b, ops[j]? = some o → o.op ≠ .select cs b)
    (hs : Region.sinkB md ops n = true) (hc : Region.chainB md ops n = true) (hn : n < ops.size) (hin : i < n)
    (hdone : ∀ listed a, L listed a → ∀ j ∈ Region.ready md ops listed, n ≤ j) :
    ∀ (f : Nat) (listed : Array Bool) (a : Act), HeadInv md ops n listed →
      (∀ j oj, ops[j]? = some oj → j ≠ i → listed.getD j true = false → (∀ e ∈ oj.after, Region.binds md e = true → e.on ≠ i) → oi.apart ops oj = true) →
      i ∈ Region.ready md ops listed → OpG P ops S oi v a →
      anyS P md ops S n L f (listed.setIfInBounds i true) (a.put oi.dst v) → anyS P md ops S n L (f + 1) listed a := by
  intro f
  induction f with
  | zero =>
    intro listed a inv _ hr hy H
    have hun := (mem_ready.1 hr).1
    refine ⟨fun h => (by rw [h] at hr; cases hr), fun j hj => ?_⟩
    have hjn : j < n := by
      rcases Nat.lt_or_ge j n with h | h
      · exact h
      · exact absurd hj (tail_waits hs hc hn inv _ i rfl hin hun j h)
    refine ⟨hjn, ?_⟩
    by_cases hji : j = i
    · subst hji; exact (stG_at hi).2 ⟨v, hy, H⟩
    · have := hdone _ _ H j (ready_mono hj hji)
      omega
  | succ f ih =>
    intro listed a inv hfree hr hy H
    have hun := (mem_ready.1 hr).1
    refine ⟨fun h => (by rw [h] at hr; cases hr), fun j hj => ?_⟩
    have hjn : j < n := by
      rcases Nat.lt_or_ge j n with h | h
      · exact h
      · exact absurd hj (tail_waits hs hc hn inv _ i rfl hin hun j h)
    refine ⟨hjn, ?_⟩
    by_cases hji : j = i
    · subst hji; exact (stG_at hi).2 ⟨v, hy, H⟩
    · have h1 := (H.2 j (ready_mono hj hji)).2
      obtain ⟨hjun, oj, hoj, hall⟩ := mem_ready.1 hj
      have hnot : ∀ e ∈ oj.after, Region.binds md e = true → e.on ≠ i := fun e he hb heq => by
        have h1 := hall e he hb
        rw [heq, getD_both hun] at h1
        cases h1
      have h2 := stG_put hoj (hfree j oj hoj hji hjun hnot) (fun cs b => hsel i oi cs b hi) (fun cs b => hsel j oj cs b hoj) hy h1
      have hfree' : ∀ k ok, ops[k]? = some ok → k ≠ i → (listed.setIfInBounds j true).getD k true = false →
          (∀ e ∈ ok.after, Region.binds md e = true → e.on ≠ i) → oi.apart ops ok = true := fun k ok hk hki hun hno => by
        refine hfree k ok hk hki ?_ hno
        by_cases hjk : j = k
        · subst hjk; exact hjun
        · rw [getD_set_ne true hjk] at hun; exact hun
      refine stG_mono (fun a' h3 => ih (listed.setIfInBounds j true) a' (inv.set hj hjn) hfree' (ready_mono hr (Ne.symm hji)) h3.1 ?_) h2
      rw [Array.setIfInBounds_comm _ _ hji]
      exact h3.2
/-- what is asked of the region's form, step by step: m operations of the head are left, k is the next one, g are the tail's -/
def lexSB (md : Region.Mode) (ops : Array Oper) (n g : Nat) : Nat → Nat → Array Bool → Bool
  | 0, _, listed => Region.seqB md ops g n listed
  | m + 1, k, listed => decide (k < n) && (Region.ready md ops listed).contains k && Region.free md ops listed k && headB md ops n listed && lexSB md ops n g m (k + 1) (listed.setIfInBounds k true)
theorem anyS_lex {Q : Act → Prop} {g : Nat} (hB : tailB md ops n = true) : ∀ (l : List Oper) (k : Nat) (listed : Array Bool) (a : Act), (∀ j, j < l.length → l[j]? = ops[k + j]?) →
    lexSB md ops n g l.length k listed = true → wpG P ops S Q l a → anyS P md ops S n (fun listed a => Region.seqB md ops g n listed = true ∧ Q a) l.length listed a
  | [], _, _, _, _, hX, h => ⟨hX, h⟩
  | o :: l, k, listed, a, hl, hX, ⟨v, hy, hn⟩ => by
    have h0 : ops[k]? = some o := by simpa using (hl 0 (by simp)).symm
    have hB' := hB
    simp only [tailB, Bool.and_eq_true, decide_eq_true_eq] at hB'
    obtain ⟨⟨⟨hsel, hn'⟩, hs⟩, hc⟩ := hB'
    simp only [List.length_cons, lexSB, Bool.and_eq_true, decide_eq_true_eq] at hX
    obtain ⟨⟨⟨⟨hk, hr⟩, hf⟩, hI⟩, hX⟩ := hX
    refine anyS_first h0 (Region.noSelect_spec hsel) hs hc hn' hk (fun _ _ hL => seqB_ready hL.1) l.length listed a (headB_inv hI) (Region.free_spec h0 hf) (by simpa using hr) hy ?_
    exact anyS_lex hB l (k + 1) _ _ (fun j hj => by have := hl (j + 1) (by simpa using hj); simpa [Nat.add_assoc, Nat.add_comm 1 j] using this) hX hn
/-- THE REGION -/
theorem wp_region_S (S : World → Prop) {id : Nat} {Q : Exit → Act → World → Prop} {a : Act} {w : World} {l : List Oper} (n : Nat) (hm : P.follows .mixedOrders = true) (hB : tailB .any l.toArray n = true)
    (hX : lexSB .any l.toArray n (l.length - n) n 0 (Array.replicate l.toArray.size false) = true) (hS : S w.drew)
    (h : wpG P l.toArray S (fun a' => ∀ w', S w' → wpList P l.toArray Q (l.drop n) a' w') (l.take n) a) : (Code.region id l.toArray true).wp P Q a w := by
  have hB' := hB
  simp only [tailB, Bool.and_eq_true, decide_eq_true_eq] at hB'
  obtain ⟨⟨⟨hsel, hn⟩, hs⟩, hc⟩ := hB'
  have hn' : n < l.length := by simpa using hn
  have hlen : (l.take n).length = n := by rw [List.length_take]; omega
  have hdl : (l.drop n).length = l.length - n := by simp
  refine wp_region_any hm ?_
  have h2 := anyS_lex (md := .any) (P := P) (S := S) (n := n) (g := l.length - n) hB (l.take n) 0 (Array.replicate l.toArray.size false) a (fun j hj => by
    rw [List.getElem?_take, if_pos (by omega)]; simp) (by rw [hlen]; exact hX) h
  rw [hlen] at h2
  have h3 := wpAny_of_S (g := l.length - n) (Q := Q) (fun listed a' w' hL hSw => by
    have := wpAny_of_seq (md := .any) (P := P) (Q' := Q) (l.drop n) n listed a' w' (fun j => by simp [List.getElem?_drop]) (by rw [hdl]; exact hL.1) (hL.2 w' hSw)
    rwa [hdl] at this) n _ _ _ hS h2
  rw [show n + (l.length - n) = l.toArray.size by simp; omega] at h3
  exact h3
end
end Go.Proofs.YtlpejbbmemhloaaGreatDoor.Rg
