/- Contract of the document's Same (heaps), where both are one. -/
import Derived.Test.YtkpddibjobafgaaGreatDoorGb3
import Derived.Test.YtkpddibjobafgaaGreatDoorGb4
namespace Go.Proofs.YtkpddibjobafgaaGreatDoor.Hp
set_option linter.unusedVariables false
set_option linter.unusedSimpArgs false
set_option maxRecDepth 100000
open Go.ChangeShapes Go.WideShapes Go.ChangeAt Go.RowKit
open Ar Nd
open BigFrame
open It (below_drewN)
set_option maxHeartbeats 4000000 in
theorem same_yes {w : World} {A A' : Option Addr} {n : Nat} {L : List Ce} (h : HIn w A n L) (h' : HIn w A' n L) (sz c c' : Nat) :
    Calls Tryz.prog 27 #[.agg #[.int .u32 sz, .slice A n c], .agg #[.int .u32 sz, .slice A' n c']] w fun e w' => e = .returned (.bool true) ∧ Below w.heap.size w w' := by
  obtain ⟨R1, R2, S0, Z0⟩ := two_new w #[.int .u32 sz, .slice A n c] #[.int .u32 sz, .slice A' n c'] 25 25
  have HR1 := Lib.hid R1
  have HR2 := Lib.hid R2
  have HS := Lib.hid S0
  have HN := Lib.hid h.len
  have hle := h.le
  have HI := Lib.hid h
  have HI' := Lib.hid h'
  clear R1 R2 S0 Z0 h h'
  go_enter Tryz.func27, Tryz.ntmps27
  go_wp2_with fail
  generalize (w.alloc (.cells #[.int .u32 (sz : Int), .slice A n c] 25)).alloc (.cells #[.int .u32 (sz : Int), .slice A' n c'] 25) = W0 at *
  go_loopw [23] (fun v wr => ∃ i : Nat, i ≤ n ∧ v = .int .i64 i ∧ Hid (Below W0.heap.size W0 wr)) (fun v _ => n - (intOf v).toNat)
  case atStart => exact ⟨0, Nat.zero_le _, by go_num, Below.refl _ _⟩
  case round =>
    obtain ⟨i, hi, rfl, hB⟩ := hrel
    have HB := Lib.hid (Hid.out hB)
    have HBW := Lib.hid (HS.out.trans (HB.out.mono HS.out.size))
    clear hB
    by_cases hlt : i < n
    · obtain ⟨x, hx⟩ : ∃ x, L[i]? = some x := ⟨_, List.getElem?_eq_getElem (by rw [← HN.out]; exact hlt)⟩
      obtain ⟨b, o, hAe, hbs, hc0, hc1, hc2⟩ := (HI.out.go HBW.out).cell hx
      obtain ⟨b', o', hAe', hbs', hd0, hd1, hd2⟩ := (HI'.out.go HBW.out).cell hx
      have HR1' := Lib.hid ((HB.out.block _ (row_lt HR1.out)).trans HR1.out)
      have HR2' := Lib.hid ((HB.out.block _ (row_lt HR2.out)).trans HR2.out)
      have k1 : wr.cell? ⟨w.heap.size, 1, none⟩ = some (.slice A n c) := cell_of_row _ _ 1 _ _ _ HR1'.out
      have l1 := row_lt HR1'.out
      have k2 : wr.cell? ⟨w.heap.size + 1, 1, none⟩ = some (.slice A' n c') := cell_of_row _ _ 1 _ _ _ HR2'.out
      have l2 := row_lt HR2'.out
      have e0 : (0 : Int) ≤ (i : Int) := by omega
      have e1 : (i : Int) < (n : Int) := by omega
      subst hAe hAe'
      clear hx HBW
      go_wp2_with fail
      go_big_quiet (fail)
      have HB2 := Lib.hid (below_drewN (HB.out) nq)
      go_wp2_with fail
      exact ⟨⟨i + 1, by omega, by go_num, HB2.out⟩, by simp [intOf] <;> omega⟩
    · go_wp2_with fail
      go_ret
      exact ⟨rfl, HBW.out⟩
end Go.Proofs.YtkpddibjobafgaaGreatDoor.Hp
/- Mathematics of what is left of a right heap when some of its cells were let go, as lists. -/
namespace Go.Proofs.YtkpddibjobafgaaGreatDoor.Hp
set_option linter.unusedVariables false
set_option linter.unusedSimpArgs false
set_option maxRecDepth 100000
open Ar Nd
theorem okTo.of {sz : Nat} {L : List Ce} (h1 : ∀ c ∈ L, 2 ≤ c.num ∧ c.num < sz ∧ isN c.d = true) (h2 : L.Pairwise fun a b => a.num < b.num) : okTo sz L L.length := fun j c hj hc => by
  obtain ⟨a, b, d⟩ := h1 c (List.mem_of_getElem? hc)
  refine ⟨a, b, d, fun x h0 hx => ?_⟩
  rw [List.pairwise_iff_getElem] at h2
  obtain ⟨l1, rfl⟩ := List.getElem?_eq_some_iff.1 hc
  obtain ⟨l2, rfl⟩ := List.getElem?_eq_some_iff.1 hx
  exact h2 _ _ l2 l1 (by omega)
theorem okTo.mem {sz : Nat} {L : List Ce} (h : okTo sz L L.length) : ∀ c ∈ L, 2 ≤ c.num ∧ c.num < sz ∧ isN c.d = true := fun c hc => by
  obtain ⟨j, hj⟩ := List.mem_iff_getElem?.1 hc
  have := h j c (List.getElem?_eq_some_iff.1 hj).1 hj
  exact ⟨this.1, this.2.1, this.2.2.1⟩
theorem sum_filter (P : List Nat) (g : Nat → Bool) (f : Nat → Nat) : ((P.filter fun p => !g p).map f).sum = (P.map fun p => if g p then 0 else f p).sum := by
  induction P with
  | nil => rfl
  | cons x P ih =>
    rw [List.map_cons, List.sum_cons, ← ih]
    cases h : g x
    · rw [List.filter_cons_of_pos (by simp [h]), List.map_cons, List.sum_cons]; simp
    · rw [List.filter_cons_of_neg (by simp [h])]; simp
/-- cells at work that make a right heap, said without memory -/
structure Aw (P : List Nat) (s : Nat → Ob) (L : List Ce) : Prop where
  nd : P.Nodup
  up : Up s P
  lst : L = P.map fun p => ceO (s p)
  gn : ∀ p ∈ P, (s p).gn = false
  bl : ∀ p ∈ P, bO s p = toF s P p
  n : ∀ p ∈ P, (s p).n = ndD (s p).d
  good : ∀ p ∈ P, gdF s P p = true
theorem Aw.num_inj {P : List Nat} {s : Nat → Ob} {L : List Ce} (h : Aw P s L) {p q : Nat} (hp : p ∈ P) (hq : q ∈ P) (e : (s p).num = (s q).num) : p = q := up_inj h.up hp hq e
theorem Aw.closed {P : List Nat} {s : Nat → Ob} {L : List Ce} (h : Aw P s L) : ∀ p ∈ P, ∀ q ∈ bO s p, q ∈ P := fun p hp q hq => by
  rw [h.bl p hp] at hq
  exact psF_mem q hq
/-- those that are there -/
def lvP (P : List Nat) (t : Nat → Ob) : List Nat := P.filter fun p => !(t p).gn
theorem plL_lv (P : List Nat) (t : Nat → Ob) : plL P t = (lvP P t).map fun p => ceO (t p) := rfl
theorem mem_lv {P : List Nat} {t : Nat → Ob} {p : Nat} : p ∈ lvP P t ↔ p ∈ P ∧ (t p).gn = false := by
  unfold lvP
  rw [List.mem_filter]
  simp
section
variable {P : List Nat} {s t : Nat → Ob} {L : List Ce} {hd : Nat → Nat}
theorem Aw.ldL (h : Aw P s L) (hs : ∀ p, Sg (s p) (t p)) {x : Nat} (hx : x ∈ P) : ldL (plL P t) (s x).num = lds P (bO s) (gO t) x := by
  have h1 : ∀ Q : List Nat, (∀ q ∈ Q, q ∈ P) → (Q.map fun p => ceO (t p)).flatMap (fun c => nms c.d) = (Q.flatMap (bO s)).map fun q => (s q).num := by
    intro Q
    induction Q with
    | nil => intro _; rfl
    | cons y Q ih =>
      intro hQ
      have hy := hQ y List.mem_cons_self
      rw [List.map_cons, List.flatMap_cons, List.flatMap_cons, List.map_append, ih fun q hq => hQ q (List.mem_cons_of_mem _ hq), h.bl y hy, to_num h.n hy (h.good y hy)]
      show nms (t y).d ++ _ = _
      rw [(hs y).d]
  unfold Hp.ldL
  rw [plL_lv, h1 _ fun q hq => (mem_lv.1 hq).1, count_map_inj (f := fun q => (s q).num) fun q hq e => by
    obtain ⟨r, hr, hq⟩ := List.mem_flatMap.1 hq
    exact h.num_inj (h.closed r (mem_lv.1 hr).1 q hq) hx e, sum_count]
  unfold lds lvP
  exact sum_filter P (gO t) fun p => (bO s p).count x
theorem Aw.live (h : Aw P s L) (hs : ∀ p, Sg (s p) (t p)) (hi : Inv P (bO s) hd (rO t) (gO t) []) {x : Nat} (hx : x ∈ P) (hg : (t x).gn = false) : (t x).r = hd x + Hp.ldL (plL P t) (s x).num := by
  rw [h.ldL hs hx]
  exact hi.nil_live hx hg
theorem Aw.up_t (h : Aw P s L) (hs : ∀ p, Sg (s p) (t p)) : Up t (lvP P t) := by
  have := h.up
  unfold Up at this ⊢
  refine List.Pairwise.sublist List.filter_sublist (this.imp fun {a b} hab => ?_)
  rw [(hs a).num, (hs b).num]
  exact hab
theorem Aw.fnd_live (h : Aw P s L) (hs : ∀ p, Sg (s p) (t p)) {x : Nat} (hx : x ∈ P) (hg : (t x).gn = false) : fndL (plL P t) (s x).num = some (ceO (t x)) := by
  rw [plL_lv, fnd_LP, fndP_yes (h.up_t hs) (mem_lv.2 ⟨hx, hg⟩) (hs x).num]
  rfl
theorem Aw.fnd_some (h : Aw P s L) (hs : ∀ p, Sg (s p) (t p)) {n : Nat} {c : Ce} (hf : fndL (plL P t) n = some c) : ∃ x, x ∈ P ∧ (t x).gn = false ∧ (s x).num = n ∧ c = ceO (t x) := by
  rw [plL_lv, fnd_LP] at hf
  cases hq : fndP t (lvP P t) n with
  | none => rw [hq] at hf; cases hf
  | some x =>
    rw [hq] at hf
    obtain ⟨h1, h2⟩ := fndP_some hq
    obtain ⟨h3, h4⟩ := mem_lv.1 h1
    exact ⟨x, h3, h4, by rw [← h2, (hs x).num], by cases hf; rfl⟩
/-- what is left is right -/
theorem Aw.left (h : Aw P s L) {sz : Nat} (hok : okH sz L) (hs : ∀ p, Sg (s p) (t p)) (hi : Inv P (bO s) hd (rO t) (gO t) []) (hr : ∀ x, x ∈ P → (t x).gn = false → (t x).r ≤ 16777216) : okH sz (plL P t) := by
  have hm : ∀ p ∈ P, ceO (s p) ∈ L := fun p hp => by rw [h.lst]; exact List.mem_map.2 ⟨p, hp, rfl⟩
  refine ⟨hok.lo, hok.hi, okTo.of (fun c hc => ?_) ?_, fun c hc k hk => ?_, fun c hc => ?_⟩
  · obtain ⟨p, hp, rfl⟩ := List.mem_map.1 (plL_lv P t ▸ hc)
    have := hok.cs.mem _ (hm p (mem_lv.1 hp).1)
    show 2 ≤ (t p).num ∧ (t p).num < sz ∧ isN (t p).d = true
    rw [(hs p).num, (hs p).d]
    exact this
  · rw [plL_lv, List.pairwise_map]
    exact h.up_t hs
  · obtain ⟨p, hp, rfl⟩ := List.mem_map.1 (plL_lv P t ▸ hc)
    obtain ⟨hp1, hp2⟩ := mem_lv.1 hp
    have hk' : k ∈ nmN (s p).n := by
      have : k ∈ nmN (ndD (t p).d) := hk
      rw [(hs p).d] at this
      rwa [h.n p hp1]
    have hg := h.good p hp1
    unfold gdF goodF at hg
    rw [List.all_eq_true] at hg
    have h2 := hg k hk'
    unfold okF at h2
    cases hf : fndP s P k.n with
    | none => rw [hf] at h2; cases h2
    | some q =>
      rw [hf] at h2
      obtain ⟨hq, hqn⟩ := fndP_some hf
      have hqb : q ∈ bO s p := by
        rw [h.bl p hp1]
        unfold toF psF
        exact List.mem_filterMap.2 ⟨k, hk', hf⟩
      have hql : (t q).gn = false := by
        cases e : (t q).gn with
        | false => rfl
        | true =>
          have h3 := (hi.dead q hq e).1
          have h4 := sum_le (f := fun p => if gO t p then 0 else (bO s p).count q) hp1
          unfold lds at h3
          rw [h3] at h4
          have h5 : (if gO t p then 0 else (bO s p).count q) = (bO s p).count q := by
            rw [if_neg (by show ¬ (t p).gn = true; rw [hp2]; decide)]
          have h6 := List.count_pos_iff.2 hqb
          simp only [h5] at h4
          omega
      refine ⟨ceO (t q), List.mem_map.2 ⟨q, mem_lv.2 ⟨hq, hql⟩, rfl⟩, ?_, ?_⟩
      · show (t q).num = k.n
        rw [(hs q).num]; exact hqn
      · show hsD (t q).d = k.hs
        rw [(hs q).d]; exact of_decide_eq_true h2
  · obtain ⟨p, hp, rfl⟩ := List.mem_map.1 (plL_lv P t ▸ hc)
    obtain ⟨hp1, hp2⟩ := mem_lv.1 hp
    have h1 := h.live hs hi hp1 hp2
    show (Hp.ldL (plL P t) (t p).num : Int) ≤ (t p).r ∧ (t p).r ≤ 16777216
    rw [(hs p).num]
    exact ⟨by omega, hr p hp1 hp2⟩
theorem Aw.heldX (h : Aw P s L) {sz : Nat} (hok : okH sz (plL P t)) (hs : ∀ p, Sg (s p) (t p)) (hi : Inv P (bO s) hd (rO t) (gO t) []) {x : Nat} (hx : x ∈ P) (hg : (t x).gn = false) : heldX sz (plL P t) (s x).num = hd x ∧ fndE sz (plL P t) (s x).num = 0 := by
  unfold Hp.heldX fndE
  rw [if_pos hok, if_pos hok, h.fnd_live hs hx hg]
  refine ⟨?_, rfl⟩
  have := h.live hs hi hx hg
  show (t x).r - (Hp.ldL (plL P t) (s x).num : Int) = _
  omega
/-- itself -/
theorem Aw.self (h : Aw P s L) : plL P s = L := by rw [plL_live h.gn, h.lst]
theorem Aw.inv (h : Aw P s L) {sz : Nat} (hok : okH sz L) : Inv P (bO s) (fun x => ((s x).r - Hp.ldL L (s x).num).toNat) (rO s) (gO s) [] := by
  refine ⟨fun x hx _ => ?_, fun x hx hg => absurd (show (s x).gn = true from hg) (by rw [h.gn x hx]; decide), fun x hx => (by cases hx)⟩
  have h1 := h.ldL (t := s) (fun p => Sg.refl _) hx
  rw [h.self] at h1
  rw [← h1]
  have h2 := hok.rf (ceO (s x)) (by rw [h.lst]; exact List.mem_map.2 ⟨x, hx, rfl⟩)
  have h3 : (Hp.ldL L (s x).num : Int) ≤ (s x).r := h2.1
  show (s x).r = _
  simp
  omega
end
theorem Tk.aw {n0 : Nat} {w : World} {v : Value} {P : List Nat} {s : Nat → Ob} {L : List Ce} (h : Tk n0 w v P s L) : Aw P s L := ⟨h.at_.nd, h.up, h.lst, h.gn, h.bl, h.n, h.good⟩
theorem Lets.dead0 {P : List Nat} {bl : Nat → List Nat} {hd : Nat → Nat} {r r' : Nat → Int} {g g' : Nat → Bool} {k : List Nat} (h : Lets bl r g k r' g') (hn : P.Nodup) (hb : ∀ p ∈ P, ∀ q ∈ bl p, q ∈ P) (hi : Inv P bl hd r g k) (h0 : ∀ x ∈ P, g x = true → hd x = 0) : ∀ x ∈ P, g' x = true → hd x = 0 := by
  induction h with
  | nil r g => exact h0
  | less hne hh ih => exact ih hi.less h0
  | gone hz hh ih =>
    rename_i r r' g g' k c
    obtain ⟨hP, hg, hr⟩ := hi.alive
    refine ih (hi.gone hn hb hz) fun x hx hgx => ?_
    by_cases e : x = c
    · subst e; omega
    · rw [updF_other e] at hgx
      exact h0 x hx hgx
theorem Swp.le {bl : Nat → List Nat} {r r' : Nat → Int} {g g' : Nat → Bool} {k : List Nat} (h : Swp bl k r g r' g') : ∀ x, r' x ≤ r x := by
  induction h with
  | nil r g => intro x; exact Int.le_refl _
  | skip h hh ih => exact ih
  | take h hg hl hh ih => intro x; exact Int.le_trans (ih x) (hl.le x)
theorem Swp.live {bl : Nat → List Nat} {r r' : Nat → Int} {g g' : Nat → Bool} {k : List Nat} (h : Swp bl k r g r' g') : ∀ x, g' x = false → g x = false ∧ (r' x = 0 → r x = 0) := by
  induction h with
  | nil r g => intro x hx; exact ⟨hx, fun h => h⟩
  | skip h hh ih => exact ih
  | take h hg hl hh ih =>
    rename_i r r1 r' g g1 g' k c
    intro x hx
    obtain ⟨h1, h2⟩ := ih x hx
    obtain ⟨h3, h4⟩ := hl.keep x h1
    have e : x ≠ c := fun e => by rw [e, updF_same] at h3; cases h3
    rw [updF_other e] at h3
    exact ⟨h3, fun h0 => h4 (h2 h0)⟩
theorem Swp.none0 {bl : Nat → List Nat} {r r' : Nat → Int} {g g' : Nat → Bool} {k : List Nat} (h : Swp bl k r g r' g') : ∀ x ∈ k, g' x = false → r' x ≠ 0 := by
  induction h with
  | nil r g => intro x hx; cases hx
  | skip hno hh ih =>
    rename_i r r' g g' k c
    intro x hx hgx h0
    rcases List.mem_cons.1 hx with rfl | hx
    · obtain ⟨h1, h2⟩ := hh.live x hgx
      exact hno ⟨h2 h0, h1⟩
    · exact ih x hx hgx h0
  | take h hg hl hh ih =>
    rename_i r r1 r' g g1 g' k c
    intro x hx hgx h0
    rcases List.mem_cons.1 hx with rfl | hx
    · obtain ⟨h1, h2⟩ := hh.live x hgx
      obtain ⟨h3, h4⟩ := hl.keep x h1
      rw [updF_same] at h3
      cases h3
    · exact ih x hx hgx h0
theorem Swp.idle {bl : Nat → List Nat} {r r' : Nat → Int} {g g' : Nat → Bool} {k : List Nat} (h : Swp bl k r g r' g') (hn : ∀ x ∈ k, ¬ r x = 0) : r' = r ∧ g' = g := by
  induction h with
  | nil r g => exact ⟨rfl, rfl⟩
  | skip hno hh ih => exact ih fun x hx => hn x (List.mem_cons_of_mem _ hx)
  | take h hg hl hh ih => exact absurd h (hn _ List.mem_cons_self)
theorem Swp.dead0 {P : List Nat} {bl : Nat → List Nat} {hd : Nat → Nat} {r r' : Nat → Int} {g g' : Nat → Bool} {k : List Nat} (h : Swp bl k r g r' g') (hn : P.Nodup) (hb : ∀ p ∈ P, ∀ q ∈ bl p, q ∈ P) (hk : ∀ x ∈ k, x ∈ P) (hi : Inv P bl hd r g [])
    (hl : ∀ (r r' : Nat → Int) (g g' : Nat → Bool) (k : List Nat), Lets bl r g k r' g' → Inv P bl hd r g k → Inv P bl hd r' g' []) (h0 : ∀ x ∈ P, g x = true → hd x = 0) : ∀ x ∈ P, g' x = true → hd x = 0 := by
  induction h with
  | nil r g => exact h0
  | skip hno hh ih => exact ih (fun x hx => hk x (List.mem_cons_of_mem _ hx)) hi h0
  | take h hg hlt hh ih =>
    rename_i r r1 r' g g1 g' k c
    have hc := hk c List.mem_cons_self
    have hi2 := hi.sweep hn hb hc hg h
    have hz := hi.nil_live hc hg
    refine ih (fun x hx => hk x (List.mem_cons_of_mem _ hx)) (hl _ _ _ _ _ hlt hi2) (hlt.dead0 hn hb hi2 fun x hx hgx => ?_)
    by_cases e : x = c
    · subst e; omega
    · rw [updF_other e] at hgx
      exact h0 x hx hgx
theorem Lets.inv {P : List Nat} {bl : Nat → List Nat} {hd : Nat → Nat} (hn : P.Nodup) (hb : ∀ p ∈ P, ∀ q ∈ bl p, q ∈ P) {r r' : Nat → Int} {g g' : Nat → Bool} {k : List Nat} (h : Lets bl r g k r' g') : Inv P bl hd r g k → Inv P bl hd r' g' [] := by
  induction h with
  | nil r g => exact fun h => h
  | less hne hh ih => exact fun h => ih h.less
  | gone hz hh ih => exact fun h => ih (h.gone hn hb hz)
/-- what a sweep comes to -/
def SwP (L M : List Ce) : Prop := ∃ (P : List Nat) (s t : Nat → Ob), Aw P s L ∧ (∀ p, Sg (s p) (t p)) ∧ Swp (bO s) P (rO s) (gO s) (rO t) (gO t) ∧ M = plL P t
theorem Swp.inv {P : List Nat} {bl : Nat → List Nat} {hd : Nat → Nat} (hn : P.Nodup) (hb : ∀ p ∈ P, ∀ q ∈ bl p, q ∈ P) {r r' : Nat → Int} {g g' : Nat → Bool} {k : List Nat} (h : Swp bl k r g r' g') : (∀ x ∈ k, x ∈ P) → Inv P bl hd r g [] → Inv P bl hd r' g' [] := by
  induction h with
  | nil r g => exact fun _ h => h
  | skip hno hh ih => exact fun hk h => ih (fun x hx => hk x (List.mem_cons_of_mem _ hx)) h
  | take h hg hl hh ih =>
    rename_i r r1 r' g g1 g' k c
    exact fun hk hi => ih (fun x hx => hk x (List.mem_cons_of_mem _ hx)) (hl.inv hn hb (hi.sweep hn hb (hk c List.mem_cons_self) hg h))
theorem heldX_at {P : List Nat} {s : Nat → Ob} {L : List Ce} (h : Aw P s L) {sz : Nat} (hok : okH sz L) {x : Nat} (hx : x ∈ P) : heldX sz L (s x).num = (s x).r - ldL L (s x).num ∧ (0 : Int) ≤ (s x).r - ldL L (s x).num := by
  have h1 := h.fnd_live (t := s) (fun p => Sg.refl _) hx (h.gn x hx)
  rw [h.self] at h1
  unfold heldX
  rw [if_pos hok, h1]
  have h2 := hok.rf (ceO (s x)) (by rw [h.lst]; exact List.mem_map.2 ⟨x, hx, rfl⟩)
  have h3 : (ldL L (s x).num : Int) ≤ (s x).r := h2.1
  exact ⟨rfl, by omega⟩
theorem SwP.right {sz : Nat} {L M : List Ce} (h : SwP L M) (hok : okH sz L) : okH sz M ∧ (∀ c ∈ M, c.r ≠ 0) ∧ (∀ n, 0 < heldX sz L n → heldX sz M n = heldX sz L n ∧ fndE sz M n = 0) := by
  obtain ⟨P, s, t, ha, hs, hw, rfl⟩ := h
  have hi := ha.inv hok
  have hi2 := hw.inv ha.nd ha.closed (fun x hx => hx) hi
  have hok2 := ha.left hok hs hi2 (fun x hx hg => by
    have h1 := hw.le x
    have h2 := (hok.rf (ceO (s x)) (by rw [ha.lst]; exact List.mem_map.2 ⟨x, hx, rfl⟩)).2
    have h3 : (s x).r ≤ 16777216 := h2
    have h4 : (t x).r ≤ (s x).r := h1
    omega)
  refine ⟨hok2, fun c hc => ?_, fun n hn => ?_⟩
  · obtain ⟨p, hp, rfl⟩ := List.mem_map.1 (plL_lv P t ▸ hc)
    obtain ⟨hp1, hp2⟩ := mem_lv.1 hp
    exact hw.none0 p hp1 hp2
  · have hf : ∃ c, fndL L n = some c := by
      unfold Hp.heldX at hn
      rw [if_pos hok] at hn
      cases hq : fndL L n with
      | none => rw [hq] at hn; exact absurd hn (show ¬ (0 : Int) < 0 by decide)
      | some c => exact ⟨c, rfl⟩
    obtain ⟨c, hc⟩ := hf
    have hc' := hc
    rw [← ha.self] at hc'
    obtain ⟨x, hx, hg, hxn, _⟩ := ha.fnd_some (t := s) (fun p => Sg.refl _) hc'
    subst hxn
    obtain ⟨h1, h2⟩ := heldX_at ha hok hx
    have hlv : (t x).gn = false := by
      cases e : (t x).gn with
      | false => rfl
      | true =>
        have := hw.dead0 ha.nd ha.closed (fun x hx => hx) hi (fun _ _ _ _ _ hl hi => hl.inv ha.nd ha.closed hi) (fun y hy hgy => absurd (show (s y).gn = true from hgy) (by rw [ha.gn y hy]; decide)) x hx e
        omega
    obtain ⟨h3, h4⟩ := ha.heldX hok2 hs hi2 hx hlv
    exact ⟨by rw [h3, h1]; omega, h4⟩
/-- once more, it changes nothing -/
theorem SwP.again {L M : List Ce} (h : SwP L M) (hr : ∀ c ∈ L, c.r ≠ 0) : M = L := by
  obtain ⟨P, s, t, ha, hs, hw, rfl⟩ := h
  obtain ⟨h1, h2⟩ := hw.idle fun x hx => hr (ceO (s x)) (by rw [ha.lst]; exact List.mem_map.2 ⟨x, hx, rfl⟩)
  have hg : ∀ p ∈ P, (t p).gn = false := fun p hp => by
    have := congrFun h2 p
    exact (show (t p).gn = (s p).gn from this).trans (ha.gn p hp)
  rw [plL_live hg, ha.lst]
  apply List.map_congr_left
  intro p hp
  have h3 : (t p).r = (s p).r := congrFun h1 p
  unfold ceO
  rw [(hs p).num, (hs p).d, h3]
end Go.Proofs.YtkpddibjobafgaaGreatDoor.Hp
/- The walk of the law HeapHolds. -/
namespace Go.Proofs.YtkpddibjobafgaaGreatDoor.Hp
set_option linter.unusedVariables false
set_option linter.unusedSimpArgs false
set_option maxRecDepth 100000
open Go.ChangeShapes Go.WideShapes Go.ChangeAt Go.RowKit
open Ar Nd
open BigFrame
theorem okTo.pair {sz : Nat} {L : List Ce} (h : okTo sz L L.length) : L.Pairwise fun a b => a.num < b.num := by
  rw [List.pairwise_iff_getElem]
  intro i j hi hj hij
  exact h.rise j i _ _ hij (List.getElem?_eq_getElem hi) (List.getElem?_eq_getElem hj)
theorem fndL_num {L : List Ce} {num : Nat} {c : Ce} (h : fndL L num = some c) : c ∈ L ∧ c.num = num := ⟨List.mem_of_find?_eq_some h, by have := List.find?_some h; simpa using this⟩
theorem ldL_map (L : List Ce) (f : Ce → Ce) (hf : ∀ c, (f c).d = c.d) (n : Nat) : ldL (L.map f) n = ldL L n := by
  unfold ldL
  congr 1
  induction L with
  | nil => rfl
  | cons c L ih => rw [List.map_cons, List.flatMap_cons, List.flatMap_cons, ih, hf]
def hd1 (num : Nat) (d : Int) (c : Ce) : Ce := if c.num = num then ⟨c.num, c.d, c.r + d⟩ else c
theorem hd1_num (num : Nat) (d : Int) (c : Ce) : (hd1 num d c).num = c.num := by unfold hd1; split <;> rfl
theorem hd1_d (num : Nat) (d : Int) (c : Ce) : (hd1 num d c).d = c.d := by unfold hd1; split <;> rfl
theorem holdL_eq (L : List Ce) (num : Nat) : holdL L num = L.map (hd1 num 1) := rfl
theorem fndL_map (L : List Ce) (num : Nat) (d : Int) (n : Nat) : fndL (L.map (hd1 num d)) n = (fndL L n).map (hd1 num d) := by
  unfold fndL
  rw [List.find?_map]
  congr 2
  funext c
  show decide ((hd1 num d c).num = n) = _
  rw [hd1_num]
theorem okH.hold {sz : Nat} {L : List Ce} {num : Nat} {c : Ce} (h : okH sz L) (hf : fndL L num = some c) (hr : c.r < 16777216) : okH sz (holdL L num) := by
  rw [holdL_eq]
  refine ⟨h.lo, h.hi, okTo.of (fun x hx => ?_) ?_, fun x hx k hk => ?_, fun x hx => ?_⟩
  · obtain ⟨y, hy, rfl⟩ := List.mem_map.1 hx
    rw [hd1_num, hd1_d]
    exact h.cs.mem y hy
  · rw [List.pairwise_map]
    exact h.cs.pair.imp fun {a b} hab => by rw [hd1_num, hd1_num]; exact hab
  · obtain ⟨y, hy, rfl⟩ := List.mem_map.1 hx
    rw [hd1_d] at hk
    obtain ⟨z, hz, h1, h2⟩ := h.ld y hy k hk
    exact ⟨_, List.mem_map.2 ⟨z, hz, rfl⟩, by rw [hd1_num]; exact h1, by rw [hd1_d]; exact h2⟩
  · obtain ⟨y, hy, rfl⟩ := List.mem_map.1 hx
    rw [hd1_num, ldL_map _ _ (hd1_d num 1)]
    have h1 := h.rf y hy
    unfold hd1
    split
    · rename_i e
      have h2 : fndL L num = some y := by
        obtain ⟨hc, hcn⟩ := fndL_num hf
        obtain ⟨i, hi⟩ := List.mem_iff_getElem?.1 hc
        obtain ⟨j, hj⟩ := List.mem_iff_getElem?.1 hy
        rcases Nat.lt_trichotomy i j with hij | rfl | hij
        · have := h.cs.rise j i _ _ hij hi hj; omega
        · rw [hi] at hj; cases hj; exact hf
        · have := h.cs.rise i j _ _ hij hj hi; omega
      rw [hf] at h2
      cases h2
      show (ldL L c.num : Int) ≤ c.r + 1 ∧ c.r + 1 ≤ 16777216
      omega
    · exact h1
theorem heldX_hold {sz : Nat} {L : List Ce} {num : Nat} {c : Ce} (h : okH sz L) (hf : fndL L num = some c) (hr : c.r < 16777216) : heldX sz (holdL L num) num = heldX sz L num + 1 ∧ fndE sz (holdL L num) num = 0 ∧ fndE sz L num = 0 := by
  have hok := h.hold hf hr
  have hm : fndL (holdL L num) num = some (hd1 num 1 c) := by rw [holdL_eq, fndL_map, hf]; rfl
  unfold heldX fndE
  rw [if_pos h, if_pos hok, if_pos h, if_pos hok, hm, hf]
  refine ⟨?_, rfl, rfl⟩
  show (hd1 num 1 c).r - (ldL (holdL L num) num : Int) = c.r - (ldL L num : Int) + 1
  rw [holdL_eq, ldL_map _ _ (hd1_d num 1), hd1, if_pos (fndL_num hf).2]
  show c.r + 1 - _ = _
  omega
theorem held_hi {sz : Nat} {L : List Ce} (num : Nat) : heldX sz L num ≤ 16777216 := by
  unfold heldX
  split
  · rename_i hok
    cases hf : fndL L num with
    | none => exact (show (0 : Int) ≤ 16777216 by decide)
    | some c =>
      have h1 := hok.rf c (fndL_num hf).1
      show c.r - (ldL L num : Int) ≤ 16777216
      omega
  · decide
theorem drop_of_hold {sz : Nat} {L M : List Ce} {num : Nat} {c : Ce} {z : Int} (h : okH sz L) (hf : fndL L num = some c) (hr : c.r < 16777216) (hd : DropP (holdL L num) num z M) : z = 0 ∧ (c.r ≠ 0 → M = L) := by
  have hcn := (fndL_num hf).2
  have hm : fndL (holdL L num) num = some (hd1 num 1 c) := by rw [holdL_eq, fndL_map, hf]; rfl
  have hcr : (hd1 num 1 c).r = c.r + 1 := by unfold hd1; rw [if_pos hcn]
  have hl := (h.rf c (fndL_num hf).1).1
  rw [hcn] at hl
  obtain ⟨c2, h1, h2⟩ := hd
  rw [hm] at h1
  cases h1
  rw [hcr, holdL_eq, ldL_map _ _ (hd1_d num 1)] at h2
  rcases h2 with ⟨h2, _⟩ | ⟨_, h3, P, s, t, p, hnd, hup, hlen, hL, hp, hpn, hgn, hb, hn, hgd, hsg, hlt, hinv, hM⟩
  · omega
  refine ⟨h3, fun hc0 => ?_⟩
  have hpr : (s p).r = c.r + 1 := by
    have h4 : fndL (holdL L num) num = some (ceO (s p)) := by rw [holdL_eq, hL, fnd_LP, fndP_yes hup hp hpn]; rfl
    rw [hm] at h4
    have h5 := congrArg (Option.map Ce.r) h4
    simp only [Option.map_some, Option.some.injEq] at h5
    rw [hcr] at h5
    exact h5.symm
  have hr2 : rO t = updF (rO s) p (rO s p - 1) ∧ gO t = gO s := by
    rcases hlt.cut with ⟨h4, _⟩ | ⟨k, x, h4, h5⟩
    · cases h4
    · have h6 : k = [] ∧ x = p := by
        have h7 := congrArg List.length h4
        have h8 : k = [] := List.eq_nil_of_length_eq_zero (by simpa using h7)
        subst h8
        exact ⟨rfl, by simpa using h4.symm⟩
      obtain ⟨rfl, rfl⟩ := h6
      rcases h5 with ⟨_, h5⟩ | ⟨h5, _⟩
      · exact h5.end_
      · exfalso
        have : rO s x = (s x).r := rfl
        omega
  have hgt : ∀ q ∈ P, (t q).gn = false := fun q hq => (congrFun hr2.2 q).trans (hgn q hq)
  rw [hM, plL_live hgt]
  have hback : L = (holdL L num).map (hd1 num (-1)) := by
    rw [holdL_eq, List.map_map]
    conv => lhs; rw [← List.map_id L]
    apply List.map_congr_left
    intro x _
    show x = hd1 num (-1) (hd1 num 1 x)
    unfold hd1
    by_cases e : x.num = num
    · rw [if_pos e, if_pos e]
      show x = ⟨x.num, x.d, x.r + 1 + -1⟩
      rw [Int.add_neg_cancel_right]
    · rw [if_neg e, if_neg e]
  rw [hback, holdL_eq, hL, List.map_map]
  apply List.map_congr_left
  intro q hq
  have h4 : (t q).r = updF (rO s) p (rO s p - 1) q := congrFun hr2.1 q
  show ceO (t q) = hd1 num (-1) (ceO (s q))
  unfold hd1 ceO
  rw [(hsg q).num, (hsg q).d, h4]
  by_cases e : q = p
  · subst e
    rw [updF_same, if_pos hpn]
    rfl
  · rw [updF_other e, if_neg (fun e2 => e (up_inj hup hq hp (e2.trans hpn.symm)))]
    rfl
end Go.Proofs.YtkpddibjobafgaaGreatDoor.Hp
/- The walk of the law HeapHolds. -/
namespace Go.Proofs.YtkpddibjobafgaaGreatDoor.Hp
set_option linter.unusedVariables false
set_option linter.unusedSimpArgs false
set_option maxRecDepth 100000
open Go.ChangeShapes Go.WideShapes Go.ChangeAt Go.RowKit
open Ar Nd
open BigFrame
theorem okH.small {sz : Nat} {L : List Ce} (h : okH sz L) : L.length ≤ 65536 ∧ ∀ c ∈ L, c.d.size ≤ 512 := ⟨by have := h.room; have := h.hi; omega, fun c hc => isN_size (h.cs.mem c hc).2.2⟩
set_option maxHeartbeats 8000000 in
theorem heapHolds_walk {tK tS : TypeId} {w : World} {A : Option Addr} {n : Nat} {L : List Ce} (hk : Kc tK tS w.heap.size w) (h : HIn w A n L) (sz cap num : Nat) (hsz : sz < 4294967296) (hnum : num < 4294967296) :
    Calls Tryz.prog 7 #[.agg #[.int .u32 sz, .slice A n cap], .int .u32 num] w fun e w' => e = .returned (.bool true) ∧ Below w.heap.size w w' := by
  have HK := Lib.hid (fun W (hb : Below w.heap.size w W) => (hk.below hb).mono hb.size)
  have HI := Lib.hid h
  have HN := Lib.hid h.len
  have hle := h.le
  have HB0 := Lib.hid (show Below w.heap.size w (w.alloc (.cells #[.int .u32 sz, .slice A n cap] 25)) from (Below.refl _ _).alloc (Nat.le_refl _) _)
  have HR0 := Lib.hid (heap_alloc_new w (.cells #[.int .u32 sz, .slice A n cap] 25))
  clear hk h
  go_enter Tryz.func7, Tryz.ntmps7
  go_wp2_with fail
  refine (lives_h (HK.out _ HB0.out)).mono ?_
  rintro e w2 ⟨rfl, hb⟩
  have HR2 := Lib.hid ((hb.block _ (row_lt HR0.out)).trans HR0.out)
  have HB2 := Lib.hid (HB0.out.trans (hb.mono HB0.out.size))
  have k0 : w2.cell? ⟨w.heap.size, 0, none⟩ = some (.int .u32 sz) := cell_of_row _ _ 0 _ _ _ HR2.out
  have k1 : w2.cell? ⟨w.heap.size, 1, none⟩ = some (.slice A n cap) := cell_of_row _ _ 1 _ _ _ HR2.out
  have l0 := row_lt HR2.out
  clear hb HR0
  go_wp2_with fail
  refine (Hold_any (HK.out _ HB2.out) (HI.out.go HB2.out) sz cap num).mono ?_
  rintro e w3 ⟨v3, z, sz3, M, rfl, ⟨A3, n3, c3, rfl, hm⟩, hR⟩
  have HM := Lib.hid (hm.since HB2.out)
  have HR3 := Lib.hid ((hm.2.block _ (row_lt HR2.out)).trans HR2.out)
  clear hm k0 k1 l0
  have hb4 : Below w3.heap.size w3 (w3.alloc (.cells #[.int .u32 sz3, .slice A3 n3 c3] 25)) := (Below.refl _ _).alloc (Nat.le_refl _) _
  have HA4 := Lib.hid (heap_alloc_new w3 (.cells #[.int .u32 sz3, .slice A3 n3 c3] 25))
  have HM4 := Lib.hid (HM.out.go hb4)
  have HB4 := Lib.hid (show Below w.heap.size w (w3.alloc (.cells #[.int .u32 sz3, .slice A3 n3 c3] 25)) from HM4.out.2)
  have HR4 := Lib.hid ((hb4.block _ (row_lt HR3.out)).trans HR3.out)
  by_cases hz : z = 0
  · subst hz
    obtain ⟨hok, c, hf, hlt, rfl, hMM⟩ : okH sz L ∧ ∃ c, fndL L num = some c ∧ c.r < 16777216 ∧ sz3 = sz ∧ M = holdL L num := by
      rcases hR with ⟨_, h, _⟩ | ⟨_, _, h, _⟩ | ⟨h1, _, h2, M', ⟨c, h3, h4⟩, h5⟩
      · cases h
      · cases h
      · rcases h4 with ⟨_, h4⟩ | ⟨h4, _, h6⟩
        · cases h4
        · exact ⟨h1, c, h3, h4, h2, by rw [h5, if_pos rfl, h6]⟩
    have HOK := Lib.hid hok
    have HF := Lib.hid hf
    have HLT := Lib.hid hlt
    have HMM := Lib.hid hMM
    have HOM := Lib.hid (show okH sz3 M by rw [hMM]; exact hok.hold hf hlt)
    have HX := Lib.hid (show heldX sz3 M num = heldX sz3 L num + 1 ∧ fndE sz3 M num = 0 ∧ fndE sz3 L num = 0 by rw [hMM]; exact heldX_hold hok hf hlt)
    clear hok hf hlt hMM hR hb4
    have hin3 := Lib.hid (HIn.of_mk HM4.out HOM.out.small.1 HOM.out.small.2)
    have hga : w.heap.size < w3.heap.size := row_lt HR3.out
    have k0 : (w3.alloc (.cells #[.int .u32 sz3, .slice A3 n3 c3] 25)).cell? ⟨w.heap.size, 0, none⟩ = some (.int .u32 sz3) := cell_of_row _ _ 0 _ _ _ HR4.out
    have k1 : (w3.alloc (.cells #[.int .u32 sz3, .slice A3 n3 c3] 25)).cell? ⟨w.heap.size, 1, none⟩ = some (.slice A n cap) := cell_of_row _ _ 1 _ _ _ HR4.out
    go_wp2_with fail
    change Calls _ _ _ (w3.alloc (.cells #[.int .u32 sz3, .slice A3 n3 c3] 25)) _
    clear k0 k1
    generalize w3.heap.size = ga at *
    generalize w3.alloc (.cells #[.int .u32 sz3, .slice A3 n3 c3] 25) = w4 at *
    refine (held_at (HK.out _ HB4.out) (HI.out.go HB4.out) sz3 cap num).mono ?_
    rintro e w5 ⟨rfl, hb⟩
    obtain ⟨hv, hhv⟩ : ∃ hv : Int, heldX sz3 L num = hv := ⟨_, rfl⟩
    have hv0 : 0 ≤ hv := by rw [← hhv]; exact held_nn sz3 L num
    have hv1 : hv ≤ 16777216 := by rw [← hhv]; exact held_hi num
    rw [hhv, HX.out.2.2]
    have HHV := Lib.hid (show heldX sz3 M num = hv + 1 by rw [HX.out.1, hhv])
    have HB5 := Lib.hid (HB4.out.trans (hb.mono HB4.out.size))
    have HR5 := Lib.hid ((hb.block _ (row_lt HR4.out)).trans HR4.out)
    have HA5 := Lib.hid ((hb.block _ (row_lt HA4.out)).trans HA4.out)
    have HIN5 := Lib.hid (hin3.out.go hb)
    clear hb hhv HM4 HM HR3 HB4 HR4 HA4 hin3
    have k0 : w5.cell? ⟨ga, 0, none⟩ = some (.int .u32 sz3) := cell_of_row _ _ 0 _ _ _ HA5.out
    have k1 : w5.cell? ⟨ga, 1, none⟩ = some (.slice A3 n3 c3) := cell_of_row _ _ 1 _ _ _ HA5.out
    have l0 := row_lt HA5.out
    go_wp2_with fail
    refine (held_at (HK.out _ HB5.out) HIN5.out sz3 c3 num).mono ?_
    rw [HHV.out, HX.out.2.1]
    rintro e w6 ⟨rfl, hb⟩
    have HB6 := Lib.hid (HB5.out.trans (hb.mono HB5.out.size))
    have HR6 := Lib.hid ((hb.block _ (row_lt HR5.out)).trans HR5.out)
    have HA6 := Lib.hid ((hb.block _ (row_lt HA5.out)).trans HA5.out)
    have HIN6 := Lib.hid (HIN5.out.go hb)
    clear hb k0 k1 l0 HB5 HR5 HA5 HIN5
    have k0 : w6.cell? ⟨ga, 0, none⟩ = some (.int .u32 sz3) := cell_of_row _ _ 0 _ _ _ HA6.out
    have k1 : w6.cell? ⟨ga, 1, none⟩ = some (.slice A3 n3 c3) := cell_of_row _ _ 1 _ _ _ HA6.out
    have l0 := row_lt HA6.out
    go_wp2_with fail
    refine (Drop_any (HK.out _ HB6.out) HIN6.out sz3 c3 num).mono ?_
    rintro e w7 ⟨v7, z7, sz7, M7, rfl, ⟨A7, n7, c7, rfl, hm⟩, hR⟩
    obtain ⟨rfl, rfl, HM7⟩ : z7 = 0 ∧ sz7 = sz3 ∧ Hid (c.r ≠ 0 → M7 = L) := by
      rcases hR with ⟨h, _⟩ | ⟨_, h, _⟩ | ⟨h1, _, h2, M', h3, h4⟩
      · exact absurd HOM.out h
      · rw [HMM.out, holdL_eq, fndL_map, HF.out] at h; cases h
      · have h3' : DropP (holdL L num) num z7 M' := HMM.out ▸ h3
        obtain ⟨h5, h6⟩ := drop_of_hold HOK.out HF.out HLT.out h3'
        exact ⟨h5, h2, fun hc => by rw [h4, if_pos h5]; exact h6 hc⟩
    have HM := Lib.hid (hm.since HB6.out)
    have HR7 := Lib.hid ((hm.2.block _ (row_lt HR6.out)).trans HR6.out)
    clear hm hR k0 k1 l0
    have hb8 : Below w7.heap.size w7 (w7.alloc (.cells #[.int .u32 sz7, .slice A7 n7 c7] 25)) := (Below.refl _ _).alloc (Nat.le_refl _) _
    have HA8 := Lib.hid (heap_alloc_new w7 (.cells #[.int .u32 sz7, .slice A7 n7 c7] 25))
    have HM8 := Lib.hid (HM.out.go hb8)
    have HR8 := Lib.hid ((hb8.block _ (row_lt HR7.out)).trans HR7.out)
    have d0 : ((hv + 1 - hv : Int) != 1) = false := by rw [show hv + 1 - hv = 1 by omega]; rfl
    clear hb8 HIN6 HB6 HR6 HA6 HR7 HM
    have k1 : (w7.alloc (.cells #[.int .u32 sz7, .slice A7 n7 c7] 25)).cell? ⟨w.heap.size, 1, none⟩ = some (.slice A n cap) := cell_of_row _ _ 1 _ _ _ HR8.out
    go_wp2_with fail
    clear k1 d0
    generalize w7.heap.size = gb at *
    generalize w7.alloc (.cells #[.int .u32 sz7, .slice A7 n7 c7] 25) = w8 at *
    go_loopw [62] (fun v wr => ∃ i : Nat, i ≤ n ∧ v = .int .i64 i ∧ Hid (Below w8.heap.size w8 wr) ∧ Hid (∀ j x, j < i → L[j]? = some x → ¬ (x.num = num ∧ x.r = 0))) (fun v _ => n - (intOf v).toNat)
    case atStart => exact ⟨0, Nat.zero_le _, by go_num, Below.refl _ _, fun j x hj => absurd hj (Nat.not_lt_zero _)⟩
    case round =>
      obtain ⟨i, hi, rfl, hB, hS⟩ := hrel
      have HB := Lib.hid (Hid.out hB)
      have HS := Lib.hid (Hid.out hS)
      have HBW := Lib.hid (HM8.out.2.trans (HB.out.mono HM8.out.2.size))
      clear hB hS
      by_cases hlt : i < n
      · obtain ⟨x, hx⟩ : ∃ x, L[i]? = some x := ⟨_, List.getElem?_eq_getElem (by rw [← HN.out]; exact hlt)⟩
        obtain ⟨b, o, hAe, hbs, hc0, hc1, hc2⟩ := (HI.out.go HBW.out).cell hx
        have HAL := Lib.hid (show Below wr.heap.size wr (wr.alloc (.cells (ecC x).toArray 60)) from (Below.refl _ _).alloc (Nat.le_refl _) _)
        have HB2 := Lib.hid (HB.out.trans (HAL.out.mono HB.out.size))
        have HBW2 := Lib.hid (HBW.out.trans (HAL.out.mono HBW.out.size))
        have HSN := Lib.hid (fun (hno : ¬ (x.num = num ∧ x.r = 0)) j y (hj : j < i + 1) (hy : L[j]? = some y) => show ¬ (y.num = num ∧ y.r = 0) by
          by_cases e : j = i
          · subst e; rw [hx] at hy; cases hy; exact hno
          · exact HS.out j y (by omega) hy)
        subst hAe
        clear hx HAL
        by_cases hxn : x.num = num
        · have d1 : ((x.num : Int) == (num : Int)) = true := by rw [beq_iff_eq]; omega
          by_cases hxr : x.r = 0
          · have d2 : ((x.r : Int) == 0) = true := by rw [beq_iff_eq]; exact hxr
            clear hxn hxr
            go_wp2_with fail
            go_ret
            exact ⟨rfl, HBW2.out⟩
          · have d2 : ((x.r : Int) == 0) = false := by rw [beq_eq_false_iff_ne]; exact hxr
            have HSS := Lib.hid (HSN.out fun h => hxr h.2)
            clear hxn hxr
            go_wp2_with fail
            exact ⟨⟨i + 1, by omega, by go_num, HB2.out, HSS.out⟩, by simp [intOf] <;> omega⟩
        · have d1 : ((x.num : Int) == (num : Int)) = false := by rw [beq_eq_false_iff_ne]; omega
          have HSS := Lib.hid (HSN.out fun h => hxn h.1)
          clear hxn
          go_wp2_with fail
          exact ⟨⟨i + 1, by omega, by go_num, HB2.out, HSS.out⟩, by simp [intOf] <;> omega⟩
      · have hML : M7 = L := HM7.out fun h0 => by
          obtain ⟨h1, h2⟩ := fndL_num HF.out
          obtain ⟨j, hj⟩ := List.mem_iff_getElem?.1 h1
          have h3 := (List.getElem?_eq_some_iff.1 hj).1
          rw [← HN.out] at h3
          exact HS.out j c (by omega) hj ⟨h2, h0⟩
        have HINB := Lib.hid (show HIn wr A7 n7 L from HIn.go (HIn.of_mk (hML ▸ HM8.out) HOK.out.small.1 HOK.out.small.2) HB.out)
        have hn7 : n7 = n := by rw [HINB.out.len, ← HN.out]
        have HR9 := Lib.hid ((HB.out.block _ (row_lt HR8.out)).trans HR8.out)
        have HA9 := Lib.hid ((HB.out.block _ (row_lt HA8.out)).trans HA8.out)
        have k0 : wr.cell? ⟨w.heap.size, 0, none⟩ = some (.int .u32 sz7) := cell_of_row _ _ 0 _ _ _ HR9.out
        have k1 : wr.cell? ⟨w.heap.size, 1, none⟩ = some (.slice A n cap) := cell_of_row _ _ 1 _ _ _ HR9.out
        have j0 : wr.cell? ⟨gb, 0, none⟩ = some (.int .u32 sz7) := cell_of_row _ _ 0 _ _ _ HA9.out
        have j1 : wr.cell? ⟨gb, 1, none⟩ = some (.slice A7 n7 c7) := cell_of_row _ _ 1 _ _ _ HA9.out
        have l0 := row_lt HR9.out
        have l1 := row_lt HA9.out
        have HSM := Lib.hid (same_yes (HI.out.go HBW.out) (hn7 ▸ HINB.out) sz7 cap c7)
        clear hML
        subst hn7
        go_wp2_with fail
        refine HSM.out.mono ?_
        rintro e w9 ⟨rfl, hb⟩
        have HB9 := Lib.hid (HBW.out.trans (hb.mono HBW.out.size))
        clear hb
        go_wp2_with fail
        go_ret
        exact ⟨rfl, HB9.out⟩
  · have q0 : ((z : Int) != 0) = true := by rw [bne_iff_ne]; exact hz
    clear hz hR
    go_wp2_with fail
    go_ret
    exact ⟨rfl, HB4.out⟩
end Go.Proofs.YtkpddibjobafgaaGreatDoor.Hp
/- Contract of package heap's sweep. -/
namespace Go.Proofs.YtkpddibjobafgaaGreatDoor.Hp
set_option linter.unusedVariables false
set_option linter.unusedSimpArgs false
set_option maxRecDepth 100000
open Go.ChangeShapes Go.WideShapes Go.ChangeAt Go.RowKit
open Ar Nd
open BigFrame
theorem Sg.trans {a b c : Ob} (h : Sg a b) (k : Sg b c) : Sg a c := ⟨k.num.trans h.num, k.d.trans h.d, k.n.trans h.n, k.vI.trans h.vI, k.vK.trans h.vK, k.vV.trans h.vV, k.bl.trans h.bl, k.bv.trans h.bv, k.a.trans h.a⟩
theorem bO_sg {s t : Nat → Ob} (h : ∀ p, Sg (s p) (t p)) : bO t = bO s := funext fun p => (h p).bl
theorem own_off {n0 b k n : Nat} {w w' : World} {e : TypeId} {v : Value} {xs : List Value} (h : w.ownsRow b e k v n xs) (ho : Off n0 w w') (he : e ≠ T) : w'.ownsRow b e k v n xs := ho.own he h
/-- where a sweep stands -/
structure SwI (n0 : Nat) (w wr : World) (P : List Nat) (s t : Nat → Ob) (i : Nat) : Prop where
  at_ : HpAt n0 wr P t
  off : Off n0 w wr
  rg : ∀ p, Sg (s p) (t p)
  inv : Inv P (bO s) (hdT s) (rO t) (gO t) []
  go : ∀ r' g', Swp (bO s) (P.drop i) (rO t) (gO t) r' g' → Swp (bO s) P (rO s) (gO s) r' g'
  tot : tot P (rO t) ≤ 1099511627776
def SwPost (n0 : Nat) (w : World) (P : List Nat) (s : Nat → Ob) (e : Ending) (w' : World) : Prop :=
  e = .returned (.tuple #[]) ∧ ∃ t, HpAt n0 w' P t ∧ Off n0 w w' ∧ (∀ p, Sg (s p) (t p)) ∧ Swp (bO s) P (rO s) (gO s) (rO t) (gO t)
theorem drop_cons {P : List Nat} {i p : Nat} (h : P[i]? = some p) : P.drop i = p :: P.drop (i + 1) := by
  obtain ⟨hl, rfl⟩ := List.getElem?_eq_some_iff.1 h
  exact List.drop_eq_getElem_cons hl
theorem SwI.skip {n0 i p : Nat} {w wr : World} {P : List Nat} {s t : Nat → Ob} (h : SwI n0 w wr P s t i) (hp : P[i]? = some p) (hno : ¬ ((t p).r = 0 ∧ (t p).gn = false)) : SwI n0 w wr P s t (i + 1) :=
  ⟨h.at_, h.off, h.rg, h.inv, fun r' g' hh => h.go r' g' (by rw [drop_cons hp]; exact Swp.skip hno hh), h.tot⟩
theorem SwI.mark {n0 i p : Nat} {w wr : World} {P : List Nat} {s t : Nat → Ob} (h : SwI n0 w wr P s t i) (hp : p ∈ P) :
    HpAt n0 (wr.setCell ⟨p, 41, none⟩ (.bool true)) P (upd t p ((t p).go true)) ∧ Off n0 wr (wr.setCell ⟨p, 41, none⟩ (.bool true)) ∧ (∀ x, Sg (s x) (upd t p ((t p).go true) x)) ∧ rO (upd t p ((t p).go true)) = rO t ∧ gO (upd t p ((t p).go true)) = updF (gO t) p true := by
  obtain ⟨h1, h2⟩ := h.at_.put hp (grown_cell wr p 41 (.bool true)) ((h.at_.at_ hp).setG true) (h.at_.own p hp) (h.at_.bel p hp)
  refine ⟨h1, h2, fun x => ?_, (rO_upd _ _ _).trans (updF_id (rO t) p), gO_upd _ _ _⟩
  by_cases e : x = p
  · subst e; rw [upd_same]; exact (h.rg x).go true
  · rw [upd_other e]; exact h.rg x
theorem SwI.take {n0 i p : Nat} {w wr w1 w2 : World} {P : List Nat} {s t t1 : Nat → Ob} {e : Ending} (h : SwI n0 w wr P s t i) (hp : P[i]? = some p) (h0 : (t p).r = 0) (hg : (t p).gn = false)
    (ho1 : Off n0 wr w1) (hs1 : ∀ x, Sg (s x) (t1 x)) (hr1 : rO t1 = rO t) (hg1 : gO t1 = updF (gO t) p true) (hl : LgPost n0 w1 P (hdT s) (bO s p) t1 e w2) : ∃ t2, SwI n0 w w2 P s t2 (i + 1) := by
  obtain ⟨_, t2, h1, h2, h3, h4, h5⟩ := hl
  have hb : bO t1 = bO s := bO_sg hs1
  rw [hb, hr1, hg1] at h4
  rw [hb] at h5
  refine ⟨t2, h1, (h.off.trans ho1).trans h2, fun x => (hs1 x).trans (h3 x), h5, fun r' g' hh => h.go r' g' ?_, Nat.le_trans (tot_mono h4.le) h.tot⟩
  rw [drop_cons hp]
  exact Swp.take h0 hg h4 hh
set_option maxHeartbeats 8000000 in
theorem sweep_any {n0 q sz : Nat} {w : World} {v : Value} {P : List Nat} {s : Nat → Ob} {L : List Ce} (h : Tk n0 w v P s L) (hn : n0 ≤ w.heap.size) (hq : w.heap[q]? = some (.cells #[.int .u32 sz, v] 73 (0, 0))) :
    Calls Tryz.prog 56 #[.pointer (some ⟨q, 0, none⟩)] w (SwPost n0 w P s) := by
  obtain ⟨A, c, rfl, _, _, hL⟩ := h.own.ls
  have hl := h.len
  obtain ⟨n, hnl⟩ : ∃ n, P.length = n := ⟨_, rfl⟩
  have HOW := Lib.hid h.own
  rw [hnl] at hq hl HOW
  have HN := Lib.hid hnl
  have hc1 : w.cell? ⟨q, 1, none⟩ = some (.slice A n c) := cell_of_row _ _ 1 _ _ _ hq
  have lq := row_lt hq
  have HST := Lib.hid (show SwI n0 w w P s s 0 from ⟨h.at_, Off.refl _ _, fun p => Sg.refl _, h.inv, fun r' g' hh => hh, h.tot⟩)
  have HCL := Lib.hid h.closed
  have HB5 := Lib.hid h.bl255
  clear h hL hnl hq
  go_enter Tryz.func56, Tryz.ntmps56
  go_wp2_with fail
  go_loopw [9] (fun v wr => ∃ (i : Nat) (t : Nat → Ob), i ≤ n ∧ v = .int .i64 i ∧ Hid (SwI n0 w wr P s t i)) (fun v _ => n - (intOf v).toNat)
  case atStart => exact ⟨0, s, Nat.zero_le _, by go_num, HST.out⟩
  case round =>
    obtain ⟨i, t, hi, rfl, hI⟩ := hrel
    have HII := Lib.hid (Hid.out hI)
    clear hI
    by_cases hlt : i < n
    · obtain ⟨p, hp⟩ : ∃ p, P[i]? = some p := ⟨_, List.getElem?_eq_getElem (by rw [HN.out]; exact hlt)⟩
      have HP := Lib.hid hp
      have hpP := List.mem_of_getElem? hp
      obtain ⟨b, o, hAe, hbs, hr⟩ := (own_ls enP_len (by have := HII.out.off.own (by decide) HOW.out; unfold OwP at this; exact this)) i p hp
      have hcp : wr.cell? ⟨b, o + i, none⟩ = some (.pointer (some ⟨p, 0, none⟩)) := by have := hr 0 _ rfl; rwa [Nat.mul_one] at this
      have HAt := Lib.hid (HII.out.at_.at_ hpP)
      have hlp : p < wr.heap.size := HAt.out.lt
      have hcr : wr.cell? ⟨p, 2, none⟩ = some (.int .i64 (t p).r) := HAt.out.cell (i := 2) rfl
      have hcg : wr.cell? ⟨p, 41, none⟩ = some (.bool (t p).gn) := HAt.out.gone
      have HPP := Lib.hid hpP
      clear hr hp hpP
      subst hAe
      by_cases h0 : (t p).r = 0
      · have q0 : ((t p).r == 0) = true := by rw [beq_iff_eq]; exact h0
        cases hg : (t p).gn
        · rw [hg] at hcg
          obtain ⟨m1, m2, m3, m4, m5⟩ := HII.out.mark HPP.out
          obtain ⟨A2, c2, hbv, hbc, hbm, hbL⟩ := (m1.bel p HPP.out).ls
          rw [upd_same] at hbv hbL hbc
          have hbe : (t p).bl = bO s p := (HII.out.rg p).bl
          have HC7 := Lib.hid (show (wr.setCell ⟨p, 41, none⟩ (.bool true)).cell? ⟨p, 7, none⟩ = some (.slice A2 (bO s p).length c2) by rw [← hbe]; have h1 := (HAt.out.setG true).cell (i := 7) rfl; rw [h1]; exact congrArg some hbv)
          have HLG := Lib.hid (letGo_any (hd := hdT s) (bO s p) A2 (bO s p).length c2 m1 (by rw [bO_sg m3, m4, m5]; exact HII.out.inv.sweep HII.out.at_.nd HCL.out HPP.out hg h0) (by rw [bO_sg m3]; exact HCL.out) (by rw [m4]; exact HII.out.tot) (fun x hx => by rw [(m3 x).bl]; exact HB5.out x hx) rfl (by rw [← hbe]; exact hbL))
          have HTK := Lib.hid (fun (e : Ending) (w2 : World) hl => HII.out.take (e := e) (w2 := w2) HP.out h0 hg m2 m3 m4 m5 hl)
          have hfg : wr.frozen? ⟨p, 41, none⟩ = false := HAt.out.frozen 41
          clear hbv hbL hbc hbe hg m1 m2 m3 m4 m5 h0
          have hc7 := HC7.out
          generalize bO s p = bl2 at *
          go_wp2_with fail
          refine HLG.out.mono ?_
          rintro e w2 hl
          obtain ⟨t2, hI2⟩ := HTK.out e w2 hl
          have HI2 := Lib.hid hI2
          obtain ⟨rfl, _⟩ := hl
          clear hI2
          go_wp2_with fail
          exact ⟨⟨i + 1, t2, by omega, by go_num, HI2.out⟩, by simp [intOf] <;> omega⟩
        · rw [hg] at hcg
          have HI2 := Lib.hid (HII.out.skip HP.out (fun hh => by rw [hg] at hh; cases hh.2))
          clear hg h0
          go_wp2_with fail
          exact ⟨⟨i + 1, t, by omega, by go_num, HI2.out⟩, by simp [intOf] <;> omega⟩
      · have q0 : ((t p).r == 0) = false := by rw [beq_eq_false_iff_ne]; exact h0
        have HI2 := Lib.hid (HII.out.skip HP.out (fun hh => h0 hh.1))
        clear h0
        go_wp2_with fail
        exact ⟨⟨i + 1, t, by omega, by go_num, HI2.out⟩, by simp [intOf] <;> omega⟩
    · have HE := Lib.hid (show P.drop i = [] from List.drop_eq_nil_of_le (by rw [HN.out]; omega))
      go_wp2_with fail
      have h := HII.out
      exact ⟨rfl, _, results_none rfl _ _ _, rfl, t, h.at_, h.off, h.rg, h.go _ _ (by rw [HE.out]; exact Swp.nil _ _)⟩
end Go.Proofs.YtkpddibjobafgaaGreatDoor.Hp
/- Contract of package heap's Sweep. -/
namespace Go.Proofs.YtkpddibjobafgaaGreatDoor.Hp
set_option linter.unusedVariables false
set_option linter.unusedSimpArgs false
set_option maxRecDepth 100000
open Go.ChangeShapes Go.WideShapes Go.ChangeAt Go.RowKit
open Ar Nd
open BigFrame
def SwR (sz : Nat) (L : List Ce) (z : Int) (sz' : Nat) (L' : List Ce) : Prop :=
  (¬ okH sz L ∧ z = 7 ∧ sz' = 0 ∧ L' = []) ∨ (okH sz L ∧ z = 0 ∧ sz' = sz ∧ SwP L L')
def SpPost (w : World) (sz : Nat) (L : List Ce) (e : Ending) (w' : World) : Prop :=
  ∃ v z sz' L', e = .returned (.tuple #[v, .int .i64 z]) ∧ HPost w sz' L' v w' ∧ SwR sz L z sz' L'
set_option maxHeartbeats 8000000 in
theorem Sweep_any {tK tS : TypeId} {w : World} {A : Option Addr} {n : Nat} {L : List Ce} (hk : Kc tK tS w.heap.size w) (h : HIn w A n L) (sz cap : Nat) :
    Calls Tryz.prog 30 #[.agg #[.int .u32 sz, .slice A n cap]] w (SpPost w sz L) := by
  have HT := Lib.hid (fun W hb => tk_at hk h sz cap W hb)
  obtain ⟨R1, R2, S0, Z0⟩ := two_new w #[.int .u32 sz, .slice A n cap] #[.int .u32 0, .slice none 0 0] 25 25
  have HR0 := Lib.hid R2
  have HB0 := Lib.hid S0
  clear hk h R1 R2 S0 Z0
  go_enter Tryz.func30, Tryz.ntmps30
  go_wp2_with fail
  refine (HT.out _ HB0.out).mono ?_
  rintro e w2 ⟨hb, ⟨hok, A2, n2, c2, P, s, rfl, htk⟩ | ⟨hno, rfl⟩⟩
  · have HB := Lib.hid (HB0.out.trans (hb.mono HB0.out.size))
    have hal : Below w2.heap.size w2 (w2.alloc (.cells #[.int .u32 sz, .slice A2 n2 c2] 73)) := (Below.refl _ _).alloc (Nat.le_refl _) _
    have HTK := Lib.hid (htk.go hal)
    have HB3 := Lib.hid (HB.out.trans (hal.mono HB.out.size))
    have HR2 := Lib.hid ((hb.block _ (row_lt HR0.out)).trans HR0.out)
    have HR3 := Lib.hid ((hal.block _ (row_lt HR2.out)).trans HR2.out)
    have HQ3 := Lib.hid (heap_alloc_new w2 (.cells #[.int .u32 sz, .slice A2 n2 c2] 73))
    have HZ0 := Lib.hid (show w.heap.size ≤ ((w.alloc (.cells #[.int .u32 sz, .slice A n cap] 25)).alloc (.cells #[.int .u32 0, .slice none 0 0] 25)).heap.size from HB0.out.size)
    have HZ2 := Lib.hid (show ((w.alloc (.cells #[.int .u32 sz, .slice A n cap] 25)).alloc (.cells #[.int .u32 0, .slice none 0 0] 25)).heap.size ≤ (w2.alloc (.cells #[.int .u32 sz, .slice A2 n2 c2] 73)).heap.size from Nat.le_trans hb.size hal.size)
    have HPLN := Lib.hid htk.len
    have HOK := Lib.hid hok
    have HSW := Lib.hid (sweep_any HTK.out HZ2.out HQ3.out)
    clear hb htk hal hok
    go_wp2_with fail
    refine HSW.out.mono ?_
    rintro e w5 ⟨rfl, t, ht, ho, hsg, hsw⟩
    have HSP := Lib.hid (show SwP L (plL P t) from ⟨P, s, t, HTK.out.aw, hsg, hsw, rfl⟩)
    have HHT := Lib.hid ht
    have HR5 := Lib.hid (ho.row HR3.out (by decide))
    have HQ5 := Lib.hid (ho.row HQ3.out (by decide))
    have HOW5 := Lib.hid (show OwP _ w5 (.slice A2 n2 c2) P from ho.own (by decide) HTK.out.own)
    have HB5 := Lib.hid (HB3.out.trans ((ho.below HZ2.out).mono HZ0.out))
    have HPL := Lib.hid (plain_any (q := w2.heap.size) (sz := sz) ⟨_, _, HQ5.out, rfl, rfl⟩ HOW5.out HHT.out.rows (by have := HPLN.out; omega))
    clear ht ho hsg hsw HSW
    go_wp2_with fail
    refine HPL.out.mono ?_
    rintro e w6 ⟨v6, rfl, A6, n6, c6, rfl, hm6⟩
    have HM6 := Lib.hid (hm6.since HB5.out)
    have HR6 := Lib.hid ((hm6.2.block _ (row_lt HR5.out)).trans HR5.out)
    clear hm6
    have k0 : w6.cell? ⟨w.heap.size + 1, 0, none⟩ = some (.int .u32 0) := cell_of_row _ _ 0 _ _ _ HR6.out
    have k1 : w6.cell? ⟨w.heap.size + 1, 1, none⟩ = some (.slice none 0 0) := cell_of_row _ _ 1 _ _ _ HR6.out
    have f0 := frozen_of_row w6 (w.heap.size + 1) 0 _ _ HR6.out
    have f1 := frozen_of_row w6 (w.heap.size + 1) 1 _ _ HR6.out
    have l0 := row_lt HR6.out
    go_wp2_with fail
    have Q1 := row_set (cs := [.int .u32 0, .slice none 0 0]) (i := 0) (u := .int .u32 sz) HR6.out
    have Q2 := row_set (cs := [.int .u32 sz, .slice none 0 0]) (i := 1) (u := .slice A6 n6 c6) Q1
    refine bodyPost_ret (v := .tuple #[.agg #[.int .u32 sz, .slice A6 n6 c6], .int .i64 0]) (results_row2 rfl _ _ (w.heap.size + 1) 25 #[.int .u32 sz, .slice A6 n6 c6] (0, 0) _ rfl Q2 Tryz.underlying25 rfl (by kernel_rfl) _ rfl) rfl ?_
    exact ⟨_, 0, sz, _, rfl, ⟨A6, n6, c6, rfl, MkC.two HM6.out HR6.out (Nat.le_succ _)⟩, .inr ⟨HOK.out, rfl, rfl, HSP.out⟩⟩
  · have HB := Lib.hid ((HB0.out.trans (hb.mono HB0.out.size)))
    have HR2 := Lib.hid ((hb.block _ (row_lt HR0.out)).trans HR0.out)
    have hal : Below w2.heap.size w2 (w2.alloc (.cells #[.int .u32 0, .slice none 0 0] 73)) := (Below.refl _ _).alloc (Nat.le_refl _) _
    have HR4 := Lib.hid ((hal.block _ (row_lt HR2.out)).trans HR2.out)
    have HB4 := Lib.hid (HB.out.trans (hal.mono HB.out.size))
    have HNO := Lib.hid hno
    clear hb hno hal
    have k0 : (w2.alloc (.cells #[.int .u32 0, .slice none 0 0] 73)).cell? ⟨w.heap.size + 1, 0, none⟩ = some (.int .u32 0) := cell_of_row _ _ 0 _ _ _ HR4.out
    have k1 : (w2.alloc (.cells #[.int .u32 0, .slice none 0 0] 73)).cell? ⟨w.heap.size + 1, 1, none⟩ = some (.slice none 0 0) := cell_of_row _ _ 1 _ _ _ HR4.out
    have f0 := frozen_of_row (w2.alloc (.cells #[.int .u32 0, .slice none 0 0] 73)) (w.heap.size + 1) 0 _ _ HR4.out
    have f1 := frozen_of_row (w2.alloc (.cells #[.int .u32 0, .slice none 0 0] 73)) (w.heap.size + 1) 1 _ _ HR4.out
    have l0 := row_lt HR4.out
    go_wp2_with fail
    have Q1 := row_set (cs := [.int .u32 0, .slice none 0 0]) (i := 0) (u := .int .u32 0) HR4.out
    have Q2 := row_set (cs := [.int .u32 0, .slice none 0 0]) (i := 1) (u := .slice none 0 0) Q1
    refine bodyPost_ret (v := .tuple #[.agg #[.int .u32 0, .slice none 0 0], .int .i64 7]) (results_row2 rfl _ _ (w.heap.size + 1) 25 #[.int .u32 0, .slice none 0 0] (0, 0) _ rfl Q2 Tryz.underlying25 rfl (by kernel_rfl) _ rfl) rfl ?_
    exact ⟨_, 7, 0, [], rfl, ⟨none, 0, 0, rfl, MkC.two (Mk.nil HB4.out) HR4.out (Nat.le_succ _)⟩, .inl ⟨HNO.out, rfl, rfl, rfl⟩⟩
end Go.Proofs.YtkpddibjobafgaaGreatDoor.Hp
/- The walk of the law HeapSwept. -/
namespace Go.Proofs.YtkpddibjobafgaaGreatDoor.Hp
set_option linter.unusedVariables false
set_option linter.unusedSimpArgs false
set_option maxRecDepth 100000
open Go.ChangeShapes Go.WideShapes Go.ChangeAt Go.RowKit
open Ar Nd
open BigFrame
set_option maxHeartbeats 8000000 in
theorem heapSwept_walk {tK tS : TypeId} {w : World} {A : Option Addr} {n : Nat} {L : List Ce} (hk : Kc tK tS w.heap.size w) (h : HIn w A n L) (sz cap : Nat) (hsz : sz < 4294967296) (hcw : ∀ c ∈ L, c.num < 4294967296) :
    Calls Tryz.prog 9 #[.agg #[.int .u32 sz, .slice A n cap]] w fun e w' => e = .returned (.bool true) ∧ Below w.heap.size w w' := by
  have HK := Lib.hid (fun W (hb : Below w.heap.size w W) => (hk.below hb).mono hb.size)
  have HI := Lib.hid h
  have HN := Lib.hid h.len
  have HCW := Lib.hid hcw
  have hle := h.le
  have HB0 := Lib.hid (show Below w.heap.size w (w.alloc (.cells #[.int .u32 sz, .slice A n cap] 25)) from (Below.refl _ _).alloc (Nat.le_refl _) _)
  have HR0 := Lib.hid (heap_alloc_new w (.cells #[.int .u32 sz, .slice A n cap] 25))
  clear hk h hcw
  go_enter Tryz.func9, Tryz.ntmps9
  go_wp2_with fail
  refine (lives_h (HK.out _ HB0.out)).mono ?_
  rintro e w2 ⟨rfl, hb⟩
  have HR2 := Lib.hid ((hb.block _ (row_lt HR0.out)).trans HR0.out)
  have HB2 := Lib.hid (HB0.out.trans (hb.mono HB0.out.size))
  have k0 : w2.cell? ⟨w.heap.size, 0, none⟩ = some (.int .u32 sz) := cell_of_row _ _ 0 _ _ _ HR2.out
  have k1 : w2.cell? ⟨w.heap.size, 1, none⟩ = some (.slice A n cap) := cell_of_row _ _ 1 _ _ _ HR2.out
  have l0 := row_lt HR2.out
  clear hb HR0
  go_wp2_with fail
  refine (Sweep_any (HK.out _ HB2.out) (HI.out.go HB2.out) sz cap).mono ?_
  rintro e w3 ⟨v3, z, sz3, M, rfl, ⟨A3, n3, c3, rfl, hm⟩, hR⟩
  have HM := Lib.hid (hm.since HB2.out)
  have HR3 := Lib.hid ((hm.2.block _ (row_lt HR2.out)).trans HR2.out)
  have hn3 : n3 = M.length := by
    obtain ⟨A', c', hv, _⟩ := hm.ls ecC_len
    simp only [Value.slice.injEq] at hv
    exact hv.2.1
  clear hm k0 k1 l0
  have hb4 : Below w3.heap.size w3 (w3.alloc (.cells #[.int .u32 sz3, .slice A3 n3 c3] 25)) := (Below.refl _ _).alloc (Nat.le_refl _) _
  have HA4 := Lib.hid (heap_alloc_new w3 (.cells #[.int .u32 sz3, .slice A3 n3 c3] 25))
  have HM4 := Lib.hid (HM.out.go hb4)
  have HB4 := Lib.hid (show Below w.heap.size w (w3.alloc (.cells #[.int .u32 sz3, .slice A3 n3 c3] 25)) from HM4.out.2)
  have HR4 := Lib.hid ((hb4.block _ (row_lt HR3.out)).trans HR3.out)
  have HN3 := Lib.hid hn3
  clear hn3 hb4
  rcases hR with ⟨hno, rfl, rfl, rfl⟩ | ⟨hok, rfl, rfl, hsw⟩
  · have h0 : n3 = 0 := HN3.out
    clear hno
    subst h0
    go_wp2_with fail
    go_ret
    exact ⟨rfl, HB4.out⟩
  · obtain ⟨hokM, hnz, hheld⟩ := hsw.right hok
    have HOK := Lib.hid hok
    have HOM := Lib.hid hokM
    have HNZ := Lib.hid hnz
    have HHE := Lib.hid hheld
    have HIN4 := Lib.hid (HIn.of_mk HM4.out hokM.small.1 hokM.small.2)
    have hle3 := HIN4.out.le
    clear hok hokM hnz hheld hsw
    go_wp2_with fail
    change Calls _ _ _ (w3.alloc (.cells #[.int .u32 sz3, .slice A3 n3 c3] 25)) _
    have hga : w.heap.size < w3.heap.size := row_lt HR3.out
    generalize w3.heap.size = ga at *
    generalize w3.alloc (.cells #[.int .u32 sz3, .slice A3 n3 c3] 25) = w4 at *
    refine (Sweep_any (HK.out _ HB4.out) HIN4.out sz3 c3).mono ?_
    rintro e w5 ⟨v5, z5, sz5, M5, rfl, ⟨A5, n5, c5, rfl, hm⟩, hR⟩
    obtain ⟨rfl, rfl, rfl⟩ : z5 = 0 ∧ sz5 = sz3 ∧ M5 = M := by
      rcases hR with ⟨h, _⟩ | ⟨_, h1, h2, h3⟩
      · exact absurd HOM.out h
      · exact ⟨h1, h2, h3.again HNZ.out⟩
    have HM5 := Lib.hid (hm.since HB4.out)
    have HR5 := Lib.hid ((hm.2.block _ (row_lt HR4.out)).trans HR4.out)
    have HA5 := Lib.hid ((hm.2.block _ (row_lt HA4.out)).trans HA4.out)
    have HIN5 := Lib.hid (HIN4.out.go hm.2)
    clear hm hR HM HR3 HM4 HA4 HB4 HR4 HIN4
    have hb6 : Below w5.heap.size w5 (w5.alloc (.cells #[.int .u32 sz5, .slice A5 n5 c5] 25)) := (Below.refl _ _).alloc (Nat.le_refl _) _
    have HS6 := Lib.hid (heap_alloc_new w5 (.cells #[.int .u32 sz5, .slice A5 n5 c5] 25))
    have HM6 := Lib.hid (HM5.out.go hb6)
    have HR6 := Lib.hid ((hb6.block _ (row_lt HR5.out)).trans HR5.out)
    have HA6 := Lib.hid ((hb6.block _ (row_lt HA5.out)).trans HA5.out)
    have HIN6 := Lib.hid (HIN5.out.go hb6)
    have hgs : ga < w5.heap.size := row_lt HA5.out
    have hg0 : w.heap.size < w5.heap.size := row_lt HR5.out
    have k1 : (w5.alloc (.cells #[.int .u32 sz5, .slice A5 n5 c5] 25)).cell? ⟨ga, 1, none⟩ = some (.slice A3 n3 c3) := cell_of_row _ _ 1 _ _ _ HA6.out
    clear hb6 HM5 HR5 HA5 HIN5
    go_wp2_with fail
    clear k1
    generalize w5.heap.size = gs at *
    generalize w5.alloc (.cells #[.int .u32 sz5, .slice A5 n5 c5] 25) = w6 at *
    go_loopw [36] (fun v wr => ∃ i : Nat, i ≤ n3 ∧ v = .int .i64 i ∧ Hid (Below w6.heap.size w6 wr)) (fun v _ => n3 - (intOf v).toNat)
    case atStart => exact ⟨0, Nat.zero_le _, by go_num, Below.refl _ _⟩
    case round =>
      obtain ⟨i, hi, rfl, hB⟩ := hrel
      have HB := Lib.hid (Hid.out hB)
      clear hB
      by_cases hlt : i < n3
      · obtain ⟨x, hx⟩ : ∃ x, M5[i]? = some x := ⟨_, List.getElem?_eq_getElem (by rw [← HN3.out]; exact hlt)⟩
        obtain ⟨b, o, hAe, hbs, hc0, hc1, hc2⟩ := (HIN6.out.go HB.out).cell hx
        have d2 : ((x.r : Int) == 0) = false := by rw [beq_eq_false_iff_ne]; exact HNZ.out x (List.mem_of_getElem? hx)
        have HB2 := Lib.hid (HB.out.trans ((show Below wr.heap.size wr (wr.alloc (.cells (ecC x).toArray 60)) from (Below.refl _ _).alloc (Nat.le_refl _) _).mono HB.out.size))
        subst hAe
        clear hx
        go_wp2_with fail
        exact ⟨⟨i + 1, by omega, by go_num, HB2.out⟩, by simp [intOf] <;> omega⟩
      · have HM7 := Lib.hid (HM6.out.go HB.out)
        have HR7 := Lib.hid ((HB.out.block _ (row_lt HR6.out)).trans HR6.out)
        have HA7 := Lib.hid ((HB.out.block _ (row_lt HA6.out)).trans HA6.out)
        have HS7 := Lib.hid ((HB.out.block _ (row_lt HS6.out)).trans HS6.out)
        have HIN7 := Lib.hid (HIN6.out.go HB.out)
        have k1 : wr.cell? ⟨w.heap.size, 1, none⟩ = some (.slice A n cap) := cell_of_row _ _ 1 _ _ _ HR7.out
        have l1 := row_lt HR7.out
        clear HM6 HR6 HA6 HS6 HIN6 HB
        go_wp2_with fail
        clear k1 l1 hlt hi
        generalize wr = w7 at *
        have hn53 : n5 = n3 := by
          obtain ⟨A', c', hv, _⟩ := HM7.out.ls ecC_len
          simp only [Value.slice.injEq] at hv
          rw [hv.2.1, HN3.out]
        have HN53 := Lib.hid hn53
        clear hn53
        go_loopw [47] (fun v wr => ∃ i : Nat, i ≤ n ∧ v = .int .i64 i ∧ Hid (Below w7.heap.size w7 wr)) (fun v _ => n - (intOf v).toNat)
        case atStart => exact ⟨0, Nat.zero_le _, by go_num, Below.refl _ _⟩
        case round =>
          obtain ⟨i, hi, rfl, hB⟩ := hrel
          have HB := Lib.hid (Hid.out hB)
          have HBW := Lib.hid (HM7.out.2.trans (HB.out.mono HM7.out.2.size))
          have HR8 := Lib.hid ((HB.out.block _ (row_lt HR7.out)).trans HR7.out)
          have HA8 := Lib.hid ((HB.out.block _ (row_lt HA7.out)).trans HA7.out)
          have HIN8 := Lib.hid (HIN7.out.go HB.out)
          clear hB
          by_cases hlt : i < n
          · obtain ⟨x, hx⟩ : ∃ x, L[i]? = some x := ⟨_, List.getElem?_eq_getElem (by rw [← HN.out]; exact hlt)⟩
            obtain ⟨b, o, hAe, hbs, hc0, hc1, hc2⟩ := (HI.out.go HBW.out).cell hx
            have hal : Below wr.heap.size wr (wr.alloc (.cells (ecC x).toArray 60)) := (Below.refl _ _).alloc (Nat.le_refl _) _
            have HX9 := Lib.hid (heap_alloc_new wr (.cells (ecC x).toArray 60))
            have HR9 := Lib.hid ((hal.block _ (row_lt HR8.out)).trans HR8.out)
            have HA9 := Lib.hid ((hal.block _ (row_lt HA8.out)).trans HA8.out)
            have HIN9 := Lib.hid (HIN8.out.go hal)
            have HB9 := Lib.hid (HB.out.trans (hal.mono HB.out.size))
            have HBW9 := Lib.hid (HBW.out.trans (hal.mono HBW.out.size))
            have k0 : wr.cell? ⟨w.heap.size, 0, none⟩ = some (.int .u32 sz5) := cell_of_row _ _ 0 _ _ _ HR8.out
            have k1 : wr.cell? ⟨w.heap.size, 1, none⟩ = some (.slice A n cap) := cell_of_row _ _ 1 _ _ _ HR8.out
            have l0 := row_lt HR8.out
            subst hAe
            clear hx hal
            go_wp2_with fail
            change Calls _ _ _ (wr.alloc (.cells (ecC x).toArray 60)) _
            clear k0 k1 l0 hc0 hc1 hc2 hbs HR8 HA8 HIN8 HB HBW
            generalize wr.heap.size = gx at *
            generalize wr.alloc (.cells (ecC x).toArray 60) = w8 at *
            refine (held_at (HK.out _ HBW9.out) (HI.out.go HBW9.out) sz5 cap x.num).mono ?_
            rintro e w9 ⟨rfl, hb⟩
            have HX9 := Lib.hid ((hb.block _ (row_lt HX9.out)).trans HX9.out)
            have HA9 := Lib.hid ((hb.block _ (row_lt HA9.out)).trans HA9.out)
            have HIN9 := Lib.hid (HIN9.out.go hb)
            have HB9 := Lib.hid (HB9.out.trans (hb.mono HB9.out.size))
            have HBW9 := Lib.hid (HBW9.out.trans (hb.mono HBW9.out.size))
            have j0 : w9.cell? ⟨ga, 0, none⟩ = some (.int .u32 sz5) := cell_of_row _ _ 0 _ _ _ HA9.out
            have j1 : w9.cell? ⟨ga, 1, none⟩ = some (.slice A3 n3 c3) := cell_of_row _ _ 1 _ _ _ HA9.out
            have x0 : w9.cell? ⟨gx, 0, none⟩ = some (.int .u32 x.num) := cell_of_row _ _ 0 _ _ _ HX9.out
            have l0 := row_lt HA9.out
            have l1 := row_lt HX9.out
            clear hb
            have HH := Lib.hid (HHE.out x.num)
            have HHM := Lib.hid (held_at (HK.out _ HBW9.out) HIN9.out sz5 c3 x.num)
            obtain ⟨hv, hhv⟩ : ∃ hv : Int, heldX sz5 L x.num = hv := ⟨_, rfl⟩
            obtain ⟨hm, hhm⟩ : ∃ hm : Int, heldX sz5 M5 x.num = hm := ⟨_, rfl⟩
            obtain ⟨fz, hfz⟩ : ∃ fz : Int, fndE sz5 L x.num = fz := ⟨_, rfl⟩
            obtain ⟨fm, hfm⟩ : ∃ fm : Int, fndE sz5 M5 x.num = fm := ⟨_, rfl⟩
            rw [hhv, hfz]
            rw [hhm, hfm] at HHM
            rw [hhv, hhm, hfm] at HH
            clear hhv hhm hfz hfm
            go_wp2_with fail
            refine HHM.out.mono ?_
            rintro e w10 ⟨rfl, hb⟩
            have HB10 := Lib.hid (HB9.out.trans (hb.mono HB9.out.size))
            clear hb
            by_cases hp : 0 < hv
            · obtain ⟨rfl, rfl⟩ := HH.out hp
              have d1 : decide ((0 : Int) < hm) = true := decide_eq_true hp
              go_wp2_with fail
              exact ⟨⟨i + 1, by omega, by go_num, HB10.out⟩, by simp [intOf] <;> omega⟩
            · have d1 : decide ((0 : Int) < hv) = false := decide_eq_false hp
              go_wp2_with fail
              exact ⟨⟨i + 1, by omega, by go_num, HB10.out⟩, by simp [intOf] <;> omega⟩
          · have HS8 := Lib.hid ((HB.out.block _ (row_lt HS7.out)).trans HS7.out)
            have HINB := Lib.hid (show HIn wr A5 n3 M5 from HN53.out ▸ HIn.go (HIn.of_mk HM7.out HOM.out.small.1 HOM.out.small.2) HB.out)
            have j0 : wr.cell? ⟨ga, 0, none⟩ = some (.int .u32 sz5) := cell_of_row _ _ 0 _ _ _ HA8.out
            have j1 : wr.cell? ⟨ga, 1, none⟩ = some (.slice A3 n3 c3) := cell_of_row _ _ 1 _ _ _ HA8.out
            have s0 : wr.cell? ⟨gs, 0, none⟩ = some (.int .u32 sz5) := cell_of_row _ _ 0 _ _ _ HS8.out
            have s1 : wr.cell? ⟨gs, 1, none⟩ = some (.slice A5 n3 c5) := by have := cell_of_row _ _ 1 _ _ _ HS8.out; rw [HN53.out] at this; exact this
            have l0 := row_lt HA8.out
            have l1 := row_lt HS8.out
            have HSM := Lib.hid (same_yes HIN8.out HINB.out sz5 c3 c5)
            go_wp2_with fail
            refine HSM.out.mono ?_
            rintro e w9 ⟨rfl, hb⟩
            have HA9 := Lib.hid ((hb.block _ (row_lt HA8.out)).trans HA8.out)
            have HIN9 := Lib.hid (HIN8.out.go hb)
            have HBW9 := Lib.hid (HBW.out.trans (hb.mono HBW.out.size))
            clear hb j0 j1 s0 s1 l0 l1
            have j0 : w9.cell? ⟨ga, 0, none⟩ = some (.int .u32 sz5) := cell_of_row _ _ 0 _ _ _ HA9.out
            have j1 : w9.cell? ⟨ga, 1, none⟩ = some (.slice A3 n3 c3) := cell_of_row _ _ 1 _ _ _ HA9.out
            have l0 := row_lt HA9.out
            have HE := Lib.hid (show okE sz5 M5 = 0 by unfold okE; rw [if_pos HOM.out])
            go_wp2_with fail
            refine (check_any (HK.out _ HBW9.out) HIN9.out sz5 c3).mono ?_
            rw [HE.out]
            rintro e w10 ⟨rfl, hb⟩
            have HBW10 := Lib.hid (HBW9.out.trans (hb.mono HBW9.out.size))
            clear hb
            go_wp2_with fail
            go_ret
            exact ⟨rfl, HBW10.out⟩
end Go.Proofs.YtkpddibjobafgaaGreatDoor.Hp
