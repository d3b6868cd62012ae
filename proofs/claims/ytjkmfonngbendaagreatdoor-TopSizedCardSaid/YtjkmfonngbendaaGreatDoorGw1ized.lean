/- The document's answers of layer 14 as plain data: its inodes are the program's. No walk of code here. -/
import Derived.Test.YtjkmfonngbendaaGreatDoorRgG
import Derived.Test.YtjkmfonngbendaaGreatDoorGb1
import Derived.Test.YtjkmfonngbendaaGreatDoorRgT
import Derived.Test.YtjkmfonngbendaaGreatDoorGb2
import Derived.Test.YtjkmfonngbendaaGreatDoorGb3
import Derived.Test.YtjkmfonngbendaaGreatDoorTrm
import Derived.Test.YtjkmfonngbendaaGreatDoorBegK
import Derived.Deep.OwnRows
import Derived.Lib.BufferWrite
import Derived.Laws.CopyOwn
import Derived.Deep.CutRange
namespace Go.Proofs.YtjkmfonngbendaaGreatDoor.Di
set_option linter.unusedVariables false
set_option linter.unusedSimpArgs false
open Ino
open It (Itm)
open Ph (nb)
variable {L : List Itm}
/-- an inode's key -/
def kI (i : Nat) : Ky := ⟨1, i, ⟨#[]⟩, 0⟩
theorem kI_lim {i : Nat} (hi : i < 4294967296) : (kI i).lim := ⟨show (1 : Nat) < 256 by decide, hi, show (0 : Nat) < 4294967296 by decide⟩
theorem kI_ok {i : Nat} (hi : 1 ≤ i) : okK (kI i) = true := okK_iff.2 ⟨hi, .inl ⟨rfl, rfl, rfl⟩⟩
theorem kI_no : okK (kI 0) = false := by decide
theorem kI_of {k : Ky} (h : okK k = true) (h1 : k.K = 1) : k = kI k.I ∧ 1 ≤ k.I := by
  obtain ⟨h2, h3⟩ := okK_iff.1 h
  rcases h3 with h3 | h3 | h3
  · refine ⟨?_, h2⟩
    obtain ⟨K, I, ⟨⟨N⟩⟩, C⟩ := k
    obtain ⟨h4, h5, h6⟩ := h3
    dsimp only at h4 h6
    subst h4 h6
    have h7 : N = [] := List.eq_nil_of_length_eq_zero h5
    subst h7
    rfl
  · rcases h3.1 with h | h <;> omega
  · omega
def hasK (K : ByteArray) (x : Itm) : Bool := x.k.toList == K.toList
theorem hasK_iff {K : ByteArray} {x : Itm} : hasK K x = true ↔ x.k = K := by
  unfold hasK
  rw [beq_iff_eq, ByteArray.toList_eq, ByteArray.toList_eq]
  constructor
  · intro h
    have h1 : x.k.data = K.data := Array.toList_inj.1 h
    calc x.k = ⟨x.k.data⟩ := rfl
      _ = ⟨K.data⟩ := by rw [h1]
      _ = K := rfl
  · rintro rfl; rfl
/-- what the document's inode answers -/
def inoR (L : List Itm) (i : Nat) : In × Bool := match L.find? (hasK (enK (kI i))) with
  | some x => (deI x.v, deIE x.v == 0)
  | none => (zIn, false)
theorem find_at {α : Type} {D : List α} {f : α → Bool} {k : Nat} {x : α} (h : ∀ y ∈ D.take k, f y = false) (hx : D[k]? = some x) (hf : f x = true) : D.find? f = some x := by
  have e : D = D.take k ++ x :: D.drop (k + 1) := by
    obtain ⟨h1, h2⟩ := List.getElem?_eq_some_iff.1 hx
    rw [← h2, ← List.drop_eq_getElem_cons h1, List.take_append_drop]
  rw [e, List.find?_append, List.find?_eq_none.2 (fun y hy => by rw [h y hy]; decide)]
  simp [hf]
theorem find_no {α : Type} {D : List α} {f : α → Bool} (h : ∀ y ∈ D.take D.length, f y = false) : D.find? f = none := by
  rw [List.take_length] at h
  exact List.find?_eq_none.2 (fun y hy => by rw [h y hy]; decide)
theorem none_snoc {α : Type} {D : List α} {f : α → Bool} {k : Nat} {x : α} (h : ∀ y ∈ D.take k, f y = false) (hx : D[k]? = some x) (hf : f x = false) : ∀ y ∈ D.take (k + 1), f y = false := by
  intro y hy
  rw [List.take_add_one, hx] at hy
  rcases List.mem_append.1 hy with hy | hy
  · exact h y hy
  · obtain rfl : y = x := by simpa using hy
    exact hf
theorem rt_key {x : Itm} (h : It.rt L = true) (hx : x ∈ L) : x.k.size ≠ 0 := by
  have := (rt_all h).1 x hx
  simp only [It.okI, It.okKey, Bool.and_eq_true, decide_eq_true_iff] at this
  exact this.1.1
/-- a key stands once -/
theorem key_once (h : It.rt L = true) {x y : Itm} (hx : x ∈ L) (hy : y ∈ L) (e : x.k = y.k) : x = y := by
  have hp := List.pairwise_iff_getElem.1 (rt_all h).2
  obtain ⟨i, hi, rfl⟩ := List.mem_iff_getElem.1 hx
  obtain ⟨j, hj, rfl⟩ := List.mem_iff_getElem.1 hy
  have hir : ∀ a : List UInt8, By.bl a a ≠ true := fun a h1 => by rw [By.bl_asymm a a h1] at h1; cases h1
  rcases Nat.lt_trichotomy i j with h1 | h1 | h1
  · have h2 := hp i j hi hj h1
    unfold It.key at h2
    rw [e] at h2
    exact absurd h2 (hir _)
  · subst h1; rfl
  · have h2 := hp j i hj hi h1
    unfold It.key at h2
    rw [e] at h2
    exact absurd h2 (hir _)
theorem inoR_at (h : It.rt L = true) {x : Itm} (hx : x ∈ L) {i : Nat} (hi : 1 ≤ i) (e : x.k = wrK (kI i)) : inoR L i = (deI x.v, deIE x.v == 0) := by
  have e2 : enK (kI i) = wrK (kI i) := (chK_yes (kI_ok hi)).2
  unfold inoR
  cases hf : L.find? (hasK (enK (kI i))) with
  | none => exact absurd (hasK_iff.2 (e.trans e2.symm)) (List.find?_eq_none.1 hf x hx)
  | some y =>
    have h1 := hasK_iff.1 (List.find?_some hf)
    obtain rfl := key_once h hx (List.mem_of_find?_eq_some hf) (by rw [e, h1, e2])
    rfl
theorem inoR_yes (h : It.rt L = true) {i : Nat} (hb : (inoR L i).2 = true) : 1 ≤ i ∧ ∃ x ∈ L, x.k = wrK (kI i) ∧ deIE x.v = 0 ∧ (inoR L i).1 = deI x.v := by
  unfold inoR at hb ⊢
  cases hf : L.find? (hasK (enK (kI i))) with
  | none => rw [hf] at hb; cases hb
  | some y =>
    rw [hf] at hb
    have h1 := hasK_iff.1 (List.find?_some hf)
    have hy := List.mem_of_find?_eq_some hf
    have hi : 1 ≤ i := by
      rcases Nat.eq_zero_or_pos i with h2 | h2
      · subst h2
        rw [(chK_no kI_no).2] at h1
        exact absurd (by rw [h1]; rfl) (rt_key h hy)
      · exact h2
    exact ⟨hi, y, hy, h1.trans (chK_yes (kI_ok hi)).2, by simpa using hb, rfl⟩
/-- where each item is right by itself, the document's inodes are the program's -/
theorem ino_R (h : It.rt L = true) (hok : ∀ x ∈ L, okX x = true) {i : Nat} (hi : i < 4294967296) : (vo (pts L)).ino i = if (inoR L i).2 = true then some (inoR L i).1 else none := by
  cases e : (vo (pts L)).ino i with
  | none =>
    split
    · rename_i hb
      obtain ⟨h1, x, hx, h2, h3, h4⟩ := inoR_yes h hb
      have hk : deK x.k = kI i := by rw [h2]; exact (deK_back (kI_lim hi) (kI_ok h1)).1
      have h5 := ino_is (L := pts L) (p := ptOf x) (List.mem_map.2 ⟨x, hx, rfl⟩) (by show (deK x.k).K = 1; rw [hk]; rfl)
      rw [show (ptOf x).k.I = i by show (deK x.k).I = i; rw [hk]; rfl, e] at h5
      cases h5
    · rfl
  | some n =>
    obtain ⟨p, hp, h1, h2, h3⟩ := ino_of _ e
    obtain ⟨x, hx, rfl⟩ := pts_mem hp
    obtain ⟨ho, hop⟩ := okX_1 (hok x hx)
    obtain ⟨hk1, hk2, hk3⟩ := deK_ok ho
    obtain ⟨hk4, hk5⟩ := kI_of hk1 h1
    have h2' : (deK x.k).I = i := h2
    rw [h2'] at hk4 hk5
    have e2 := inoR_at h hx hk5 (by rw [← hk4, hk2])
    have e3 : deIE x.v = 0 := okP_1 hop h1
    rw [e2, e3, h3]
    rfl
end Go.Proofs.YtjkmfonngbendaaGreatDoor.Di
/- A volume with one file: when it is right. No walk of code here. -/
namespace Go.Proofs.YtjkmfonngbendaaGreatDoor.Di
set_option linter.unusedVariables false
set_option linter.unusedSimpArgs false
open Ino
open It (Itm)
variable {L : List Itm}
theorem keep2 : ∀ (ps : List Pt) (s : Vo), (∀ p ∈ ps, p.k.K ≠ 2) → (ps.foldl takeP s).nmd = s.nmd ∧ (ps.foldl takeP s).abv = s.abv ∧ (ps.foldl takeP s).ent = s.ent
  | [], s, _ => ⟨rfl, rfl, rfl⟩
  | p :: ps, s, h => by
    rw [List.foldl_cons]
    obtain ⟨h1, h2, h3⟩ := keep2 ps (takeP s p) (fun q hq => h q (List.mem_cons_of_mem _ hq))
    have h4 := h p List.mem_cons_self
    rw [h1, h2, h3]
    unfold takeP
    by_cases k1 : p.k.K = 1
    · rw [if_pos k1]; exact ⟨rfl, rfl, rfl⟩
    · rw [if_neg k1, if_neg h4]; exact ⟨rfl, rfl, rfl⟩
/-- where one item alone is an entry -/
theorem one_ent (h : It.rt L = true) {e : Itm} (he : e ∈ L) (h2 : (deK e.k).K = 2) (hu : ∀ x ∈ L, (deK x.k).K = 2 → x = e) :
    (vo (pts L)).nmd = (fun i => if i = numOf e.v then 1 else 0) ∧ (vo (pts L)).abv = (fun i => if i = numOf e.v then (deK e.k).I else 0) ∧ (vo (pts L)).ent = (fun k => if k = deK e.k then some (numOf e.v) else none) := by
  obtain ⟨A, B, hL⟩ := List.append_of_mem he
  have hp := (rt_all h).2
  rw [hL] at hp
  have hir : ∀ a : List UInt8, By.bl a a ≠ true := fun a h1 => by rw [By.bl_asymm a a h1] at h1; cases h1
  have hA : ∀ p ∈ pts A, p.k.K ≠ 2 := fun p hp2 h3 => by
    obtain ⟨x, hx, rfl⟩ := pts_mem hp2
    have e1 := hu x (by rw [hL]; exact List.mem_append_left _ hx) h3
    have := (List.pairwise_append.1 hp).2.2 x hx e (by simp)
    rw [e1] at this
    exact hir _ this
  have hB : ∀ p ∈ pts B, p.k.K ≠ 2 := fun p hp2 h3 => by
    obtain ⟨x, hx, rfl⟩ := pts_mem hp2
    have e1 := hu x (by rw [hL]; simp [hx]) h3
    have := (List.pairwise_cons.1 (List.pairwise_append.1 hp).2.1).1 x hx
    rw [e1] at this
    exact hir _ this
  have e2 : vo (pts L) = (pts B).foldl takeP (takeP (vo (pts A)) (ptOf e)) := by
    rw [hL]
    unfold vo pts
    rw [List.map_append, List.map_cons, List.foldl_append, List.foldl_cons]
  obtain ⟨b1, b2, b3⟩ := keep2 (pts B) (takeP (vo (pts A)) (ptOf e)) hB
  obtain ⟨a1, a2, a3⟩ := keep2 (pts A) vo0 hA
  have a1' : (vo (pts A)).nmd = vo0.nmd := a1
  have a2' : (vo (pts A)).abv = vo0.abv := a2
  have a3' : (vo (pts A)).ent = vo0.ent := a3
  have h2' : (ptOf e).k.K = 2 := h2
  rw [e2, b1, b2, b3]
  unfold takeP
  rw [if_neg (by rw [h2']; decide), if_pos h2']
  unfold takeE
  rw [a1', a2', a3']
  exact ⟨rfl, rfl, rfl⟩
/-- a volume with one file of S bytes, named y by the root -/
structure OneF (L : List Itm) (S : Nat) (y : ByteArray) (e : Itm) : Prop where
  rt : It.rt L = true
  root : ∃ x ∈ L, x.k = wrK (kI 1) ∧ deIE x.v = 0 ∧ (deI x.v).K = 1
  two : ∃ x ∈ L, x.k = wrK (kI 2) ∧ deIE x.v = 0 ∧ (deI x.v).K = 2 ∧ (deI x.v).L = 1 ∧ (deI x.v).S = S
  ent : e ∈ L ∧ deKE e.k = 0 ∧ deK e.k = ⟨2, 1, y, 0⟩ ∧ numOf e.v = 2 ∧ okX e = true
  all : ∀ x ∈ L, x.k = wrK (kI 1) ∨ x.k = wrK (kI 2) ∨ x = e ∨ ∃ k, k < 512 ∧ deKE x.k = 0 ∧ deK x.k = ⟨3, 2, ⟨#[]⟩, k⟩ ∧ x.v.size ≠ 0 ∧ x.v.size ≤ 128 ∧ lz x.v = false
theorem deK_kI {i : Nat} (h1 : 1 ≤ i) (h2 : i < 4294967296) : deK (wrK (kI i)) = kI i ∧ deKE (wrK (kI i)) = 0 := deK_back (kI_lim h2) (kI_ok h1)
theorem OneF.ok {S : Nat} {y : ByteArray} {e : Itm} (h : OneF L S y e) : ∀ x ∈ L, okX x = true := by
  intro x hx
  have hin : ∀ i, 1 ≤ i → i < 4294967296 → x.k = wrK (kI i) → deIE x.v = 0 → okX x = true := fun i h1 h2 e1 e2 => by
    unfold okX okP
    have e3 : (ptOf x).k = kI i := by show deK x.k = _; rw [e1]; exact (deK_kI h1 h2).1
    rw [e1, (deK_kI h1 h2).2, e3, if_pos (show (kI i).K = 1 from rfl)]
    rw [show (ptOf x).v = x.v from rfl, decide_eq_true e2]
    rfl
  rcases h.all x hx with e1 | e1 | e1 | ⟨k, h1, h2, h3, h4, h5, h6⟩
  · obtain ⟨z, hz, f1, f2, _⟩ := h.root
    obtain rfl := key_once h.rt hx hz (e1.trans f1.symm)
    exact hin 1 (by decide) (by decide) e1 f2
  · obtain ⟨z, hz, f1, f2, _⟩ := h.two
    obtain rfl := key_once h.rt hx hz (e1.trans f1.symm)
    exact hin 2 (by decide) (by decide) e1 f2
  · rw [e1]; exact h.ent.2.2.2.2
  · unfold okX okP
    have e3 : (ptOf x).k = ⟨3, 2, ⟨#[]⟩, k⟩ := h3
    have e4 : (ptOf x).v = x.v := rfl
    rw [h2, e3, e4, if_neg (show ¬ (3 : Nat) = 1 by decide), if_neg (show ¬ (3 : Nat) = 2 by decide), if_pos rfl, decide_eq_true h4, decide_eq_true h5, h6]
    rfl
theorem OneF.ino {S : Nat} {y : ByteArray} {e : Itm} (h : OneF L S y e) : (∃ n, (vo (pts L)).ino 1 = some n ∧ n.K = 1) ∧ (∃ n, (vo (pts L)).ino 2 = some n ∧ n.K = 2 ∧ n.L = 1 ∧ n.S = S) ∧ ∀ i n, (vo (pts L)).ino i = some n → i = 1 ∨ i = 2 := by
  refine ⟨?_, ?_, ?_⟩
  · obtain ⟨z, hz, f1, f2, f3⟩ := h.root
    refine ⟨deI z.v, ?_, f3⟩
    rw [ino_R h.rt h.ok (by decide), inoR_at h.rt hz (by decide) f1, f2]
    rfl
  · obtain ⟨z, hz, f1, f2, f3⟩ := h.two
    refine ⟨deI z.v, ?_, f3⟩
    rw [ino_R h.rt h.ok (by decide), inoR_at h.rt hz (by decide) f1, f2]
    rfl
  · intro i n hn
    obtain ⟨p, hp, h1, h2, _⟩ := ino_of _ hn
    obtain ⟨x, hx, rfl⟩ := pts_mem hp
    have h1' : (deK x.k).K = 1 := h1
    have h2' : (deK x.k).I = i := h2
    rcases h.all x hx with e1 | e1 | e1 | ⟨k, _, _, h3, _⟩
    · rw [e1, (deK_kI (by decide) (by decide)).1] at h2'; exact .inl h2'.symm
    · rw [e1, (deK_kI (by decide) (by decide)).1] at h2'; exact .inr h2'.symm
    · rw [e1, h.ent.2.2.1] at h1'; cases h1'
    · rw [h3] at h1'; cases h1'
theorem OneF.vols {S : Nat} {y : ByteArray} {e : Itm} (h : OneF L S y e) : (vo (pts L)).nmd = (fun i => if i = 2 then 1 else 0) ∧ (vo (pts L)).abv = (fun i => if i = 2 then 1 else 0) ∧ (vo (pts L)).ent = (fun k => if k = ⟨2, 1, y, 0⟩ then some 2 else none) := by
  have h1 := one_ent h.rt h.ent.1 (by rw [h.ent.2.2.1]) (fun x hx h2 => by
    rcases h.all x hx with e1 | e1 | e1 | ⟨k, _, _, h3, _⟩
    · rw [e1, (deK_kI (by decide) (by decide)).1] at h2; cases h2
    · rw [e1, (deK_kI (by decide) (by decide)).1] at h2; cases h2
    · exact e1
    · rw [h3] at h2; cases h2)
  rw [h.ent.2.2.1, h.ent.2.2.2.1] at h1
  exact h1
/-- it is right just when no chunk ends behind S -/
theorem OneF.right {S : Nat} {y : ByteArray} {e : Itm} (h : OneF L S y e) : Right L ↔ ∀ x ∈ L, ∀ k, deK x.k = ⟨3, 2, ⟨#[]⟩, k⟩ → k * 128 + x.v.size ≤ S := by
  obtain ⟨⟨n1, i1, k1⟩, ⟨n2, i2, k2, l2, s2⟩, hi⟩ := h.ino
  obtain ⟨v1, v2, v3⟩ := h.vols
  have st : ∀ x ∈ L, stray (vo (pts L)) (ptOf x) = false ↔ ∀ k, deK x.k = ⟨3, 2, ⟨#[]⟩, k⟩ → k * 128 + x.v.size ≤ S := by
    intro x hx
    unfold stray
    have eV : (ptOf x).v = x.v := rfl
    rcases h.all x hx with e1 | e1 | e1 | ⟨k, _, _, h3, _⟩
    · have e3 : (ptOf x).k = kI 1 := by show deK x.k = _; rw [e1]; exact (deK_kI (by decide) (by decide)).1
      have e3' : deK x.k = kI 1 := e3
      rw [e3, e3', show (kI 1).I = 1 from rfl, i1]
      exact ⟨fun _ k hk => (by cases hk), fun _ => rfl⟩
    · have e3 : (ptOf x).k = kI 2 := by show deK x.k = _; rw [e1]; exact (deK_kI (by decide) (by decide)).1
      have e3' : deK x.k = kI 2 := e3
      rw [e3, e3', show (kI 2).I = 2 from rfl, i2, v1]
      refine ⟨fun _ k hk => (by cases hk), fun _ => ?_⟩
      dsimp only
      rw [if_pos (show (kI 2).K = 1 from rfl), Bool.and_eq_false_iff]
      exact .inr (decide_eq_false (fun e => e l2.symm))
    · have e3 : (ptOf x).k = ⟨2, 1, y, 0⟩ := by show deK x.k = _; rw [e1]; exact h.ent.2.2.1
      have e3' : deK x.k = ⟨2, 1, y, 0⟩ := e3
      rw [e3, e3']
      dsimp only
      rw [i1, v3]
      refine ⟨fun _ k hk => (by cases hk), fun _ => ?_⟩
      dsimp only
      rw [if_neg (by decide), if_pos rfl, if_pos rfl, Option.getD_some, i2, k1]
      rfl
    · have e3 : (ptOf x).k = ⟨3, 2, ⟨#[]⟩, k⟩ := h3
      rw [e3, h3, eV]
      dsimp only
      rw [i2]
      dsimp only
      rw [if_neg (by decide), if_neg (by decide), if_pos rfl, k2, Bool.or_eq_false_iff, s2]
      constructor
      · rintro ⟨_, h5⟩ k' hk'
        injection hk' with _ _ _ hk''
        have := of_decide_eq_false h5
        rw [← hk'']; omega
      · intro h5
        exact ⟨rfl, decide_eq_false (by have := h5 k rfl; omega)⟩
  constructor
  · intro hr x hx
    exact (st x hx).1 (hr.str _ (List.mem_map.2 ⟨x, hx, rfl⟩))
  · intro hc
    refine ⟨h.rt, h.ok, ?_, ?_, ?_⟩
    · unfold kind; rw [i1]; exact k1
    · intro p hp
      obtain ⟨x, hx, rfl⟩ := pts_mem hp
      exact (st x hx).2 (hc x hx)
    · intro i n hn hk
      rcases hi i n hn with rfl | rfl
      · exact Up.one _
      · rw [i2] at hn
        cases hn
        omega
/-- along the file's name one comes to it -/
theorem OneF.walk {S : Nat} {y : ByteArray} {e : Itm} (h : OneF L S y e) (fo : Bool) : wkL (vo (pts L)) fo 8 1 [y] = (2, 0) := by
  obtain ⟨⟨n1, i1, k1⟩, ⟨n2, i2, k2, _, _⟩, _⟩ := h.ino
  obtain ⟨_, _, v3⟩ := h.vols
  have q1 : kind (vo (pts L)) 1 = 1 := by unfold kind; rw [i1]; exact k1
  have q2 : kind (vo (pts L)) 2 = 2 := by unfold kind; rw [i2]; exact k2
  have q3 : (vo (pts L)).ent ⟨2, 1, y, 0⟩ = some 2 := by rw [v3]; exact if_pos rfl
  rw [wkL_cons, if_neg (by rw [q1]; decide), q3]
  dsimp only
  rw [if_pos (by rw [q2]; rfl), wkL_nil]
end Go.Proofs.YtjkmfonngbendaaGreatDoor.Di
/- Plain mathematics of files' bytes as chunks that a volume keeps. No walk here. -/
namespace Go.Proofs.YtjkmfonngbendaaGreatDoor.Da
set_option linter.unusedVariables false
set_option linter.unusedSimpArgs false
open It (Itm Ch key ckey get app und pre UpK rt rc)
open Ino (Ky okK okK_iff wrK wrK_inj pfx deK deKE deK_back deK_ok wrK_pfx pfx_inj pfx_ok)
/-- the key of an inode's chunk -/
def kyC (I k : Nat) : Ky := ⟨3, I, ByteArray.empty, k⟩
def cky (I k : Nat) : ByteArray := wrK (kyC I k)
theorem kyC_ok {I k : Nat} (h : 1 ≤ I) (hk : k < 512) : okK (kyC I k) = true := okK_iff.2 ⟨h, .inr (.inr ⟨rfl, rfl, hk⟩)⟩
theorem kyC_lim {I k : Nat} (h : I < 4294967296) (hk : k < 512) : (kyC I k).lim := ⟨by show 3 < 256; omega, h, by show k < 4294967296; omega⟩
theorem cky_inj {I J k l : Nat} (hI : 1 ≤ I) (hI2 : I < 4294967296) (hJ : 1 ≤ J) (hJ2 : J < 4294967296) (hk : k < 512) (hl : l < 512) (h : cky I k = cky J l) : I = J ∧ k = l := by
  have := wrK_inj (kyC_lim hI2 hk) (kyC_lim hJ2 hl) (kyC_ok hI hk) (kyC_ok hJ hl) h
  unfold kyC at this
  simp only [Ky.mk.injEq] at this
  exact ⟨this.2.1, this.2.2.2⟩
theorem cky_parse {I k : Nat} (hI : 1 ≤ I) (hI2 : I < 4294967296) (hk : k < 512) : deK (cky I k) = kyC I k ∧ deKE (cky I k) = 0 := deK_back (kyC_lim hI2 hk) (kyC_ok hI hk)
/-- a chunk -/
structure Ck where
  n : Nat
  k : ByteArray
  h : Bool
  v : ByteArray
/-- the items under an inode's prefix that are chunks -/
def ckOf (x : Itm) : Option Ck := if deKE x.k = 0 then some ⟨(deK x.k).C, x.k, true, x.v⟩ else none
def chs (D : List Itm) (I : Nat) : List Ck := (und D (pfx 3 I)).filterMap ckOf
theorem pre_iff {p : ByteArray} {x : Itm} : pre p x = true ↔ ∃ r, x.k.data.toList = p.data.toList ++ r := by
  unfold pre key
  rw [List.isPrefixOf_iff_prefix]
  exact ⟨fun ⟨r, h⟩ => ⟨r, h.symm⟩, fun ⟨r, h⟩ => ⟨r, h.symm⟩⟩
theorem cky_pre {I k : Nat} (hI : 1 ≤ I) (hk : k < 512) : ∃ r, (cky I k).data.toList = (pfx 3 I).data.toList ++ r := by
  obtain ⟨h, _⟩ := wrK_pfx (kyC_ok hI hk)
  unfold cky
  rw [h]
  exact ⟨_, by rw [ByteArray.data_append, Array.toList_append]; rfl⟩
theorem ck_key {I : Nat} (hI : 1 ≤ I) (hI2 : I < 4294967296) {x : Itm} (hp : pre (pfx 3 I) x = true) (hk : deKE x.k = 0) : ∃ k, k < 512 ∧ x.k = cky I k ∧ (deK x.k).C = k := by
  obtain ⟨h1, h2, h3⟩ := deK_ok hk
  obtain ⟨p1, p2, p3, p4⟩ := wrK_pfx h1
  obtain ⟨q1, q2⟩ := pfx_ok (kyC_ok hI (show (0 : Nat) < 512 by omega))
  obtain ⟨q3, q4⟩ := pfx_ok h1
  obtain ⟨r, hr⟩ := pre_iff.1 hp
  have e5 : (deK x.k).K = 3 ∧ (deK x.k).I = I := by
    have e1 : pfx (deK x.k).K (deK x.k).I = pfx 3 I := by
      rw [← p2, h2]
      apply ByteArray.ext
      apply Array.toList_inj.1
      rw [ByteArray.data_extract, Array.toList_extract, List.extract_eq_take_drop, hr]
      have hz : (pfx 3 I).data.toList.length = 5 := by rw [Array.length_toList]; exact q2
      rw [List.drop_zero, Nat.sub_zero, List.take_append_of_le_length (by omega), List.take_of_length_le (by omega)]
    exact pfx_inj (a := deK x.k) (b := kyC I 0) h3 (kyC_lim hI2 (by omega)) h1 (kyC_ok hI (by omega)) e1
  obtain ⟨e6, e7⟩ := e5
  obtain ⟨_, h4⟩ := okK_iff.1 h1
  have hN : (deK x.k).N.size = 0 ∧ (deK x.k).C < 512 := by
    rcases h4 with ⟨a, _⟩ | ⟨a, _⟩ | ⟨_, b, c⟩
    · omega
    · omega
    · exact ⟨b, c⟩
  have hNe := Ino.size0 hN.1
  refine ⟨(deK x.k).C, hN.2, ?_, rfl⟩
  have : deK x.k = kyC I (deK x.k).C := by
    have : deK x.k = ⟨(deK x.k).K, (deK x.k).I, (deK x.k).N, (deK x.k).C⟩ := rfl
    rw [this, e6, e7, hNe]
    rfl
  unfold cky
  rw [← this, h2]
theorem mem_chs {D : List Itm} {I : Nat} (hI : 1 ≤ I) (hI2 : I < 4294967296) (c : Ck) : c ∈ chs D I ↔ ∃ k v, k < 512 ∧ (⟨cky I k, v⟩ : Itm) ∈ D ∧ c = ⟨k, cky I k, true, v⟩ := by
  unfold chs und ckOf
  rw [List.mem_filterMap]
  constructor
  · rintro ⟨x, hx, hc⟩
    obtain ⟨hD, hp⟩ := List.mem_filter.1 hx
    split at hc
    · rename_i hk
      obtain ⟨k, h1, h2, h3⟩ := ck_key hI hI2 hp hk
      refine ⟨k, x.v, h1, ?_, ?_⟩
      · rw [← h2]; exact hD
      · rw [← Option.some.inj hc, h3, h2]
    · cases hc
  · rintro ⟨k, v, hk, hD, rfl⟩
    refine ⟨⟨cky I k, v⟩, List.mem_filter.2 ⟨hD, pre_iff.2 (cky_pre hI hk)⟩, ?_⟩
    obtain ⟨p1, p2⟩ := cky_parse hI hI2 hk
    show (if deKE (cky I k) = 0 then _ else none) = _
    rw [if_pos p2]
    show some (Ck.mk (deK (cky I k)).C _ _ _) = _
    rw [p1]
    rfl
/-- the byte at a place of an inode's -/
def bt (D : List Itm) (I p : Nat) : UInt8 := match get D (cky I (p / 128)) with
  | some v => ((v.data.toList.take 128)[p % 128]?).getD 0
  | none => 0
/-- bytes that are read -/
def rdL (D : List Itm) (I a e : Nat) : List UInt8 := (List.range (e - a)).map fun j => bt D I (a + j)
theorem rdL_len (D : List Itm) (I a e : Nat) : (rdL D I a e).length = e - a := by unfold rdL; rw [List.length_map, List.length_range]
theorem rdL_get (D : List Itm) (I a e j : Nat) (h : j < e - a) : (rdL D I a e)[j]? = some (bt D I (a + j)) := by
  unfold rdL
  rw [List.getElem?_map, List.getElem?_range h]
  rfl
/-- bytes read in two parts -/
theorem rdL_two (D : List Itm) (I a m e : Nat) (h1 : a ≤ m) (h2 : m ≤ e) : rdL D I a m ++ rdL D I m e = rdL D I a e := by
  apply List.ext_getElem?
  intro j
  by_cases hj : j < m - a
  · rw [List.getElem?_append_left (by rw [rdL_len]; exact hj), rdL_get _ _ _ _ _ hj, rdL_get _ _ _ _ _ (by omega)]
  · rw [List.getElem?_append_right (by rw [rdL_len]; omega), rdL_len]
    by_cases hj2 : j < e - a
    · rw [rdL_get _ _ _ _ _ (by omega), rdL_get _ _ _ _ _ hj2, show m + (j - (m - a)) = a + j by omega]
    · rw [List.getElem?_eq_none (by rw [rdL_len]; omega), List.getElem?_eq_none (by rw [rdL_len]; omega)]
end Go.Proofs.YtjkmfonngbendaaGreatDoor.Da
/- Contracts of package data: a chunk's methods, keep, laid. -/
namespace Go.Proofs.YtjkmfonngbendaaGreatDoor.Da
set_option linter.unusedVariables false
set_option linter.unusedSimpArgs false
set_option maxRecDepth 100000
open Go.ChangeShapes Go.WideShapes Go.ChangeAt Go.RowKit
open Ar Rg
open Pk (u8s u8s_length)
open It (Itm Ch)
theorem setRow_heap' {w : World} {g : Nat} {cs old : Array Value} {t : TypeId} {f : Nat × Nat} (h : w.heap[g]? = some (.cells old t f)) : (w.setRow g cs).heap[g]? = some (.cells cs t f) := setRow_heap w g old cs t f h
theorem row_lt {w : World} {b : Nat} {o : Obj} (h : w.heap[b]? = some o) : b < w.heap.size := by
  rcases Nat.lt_or_ge b w.heap.size with hl | hg
  · exact hl
  · rw [Array.getElem?_eq_none hg] at h; cases h
/-- a chunk's cells -/
def enC (c : Ck) : List Value := [.int .u32 c.n, .string c.k, .bool c.h, .string c.v]
theorem enC_len (c : Ck) : (enC c).length = 4 := rfl
theorem enC_one (c : Ck) : ∀ u ∈ enC c, u.oneCell' = true := by
  intro v hv
  simp [enC] at hv
  rcases hv with rfl | rfl | rfl | rfl <;> rfl
theorem infoC4 (c : Ck) : (Tryz.prog.info? 130).map (·.size) = some (enC c).toArray.size := by
  show _ = some 4
  kernel_rfl
theorem infoH3 (c : Ch) : (Tryz.prog.info? 41).map (·.size) = some (Sc.enc c).toArray.size := by
  show _ = some 3
  kernel_rfl
theorem se1 {s : ByteArray} (h : s.size ≠ 0) : s.toList.isEmpty = false := by rw [ByteArray.toList_eq, List.isEmpty_eq_false_iff]; intro h2; exact h (show s.data.size = 0 by rw [← Array.length_toList, h2]; rfl)
theorem se2 {s : ByteArray} (h : s.size ≠ 0) : ¬ s.toList = [] := by intro h2; have := se1 h; rw [h2] at this; cases this
theorem se3 {s : ByteArray} (h : s.size = 0) : s.toList = [] := by rw [ByteArray.toList_eq]; exact List.eq_nil_of_length_eq_zero (by rw [Array.length_toList]; exact h)
theorem from_any (c : Ck) (h : c.n < 4294967296) (w : World) :
    Calls Tryz.prog 89 #[.agg (enC c).toArray] w fun e w' => e = .returned (.int .i64 ((c.n * 128 : Nat) : Int)) ∧ Below w.heap.size w w' := by
  show Calls Tryz.prog 89 #[.agg #[.int .u32 c.n, .string c.k, .bool c.h, .string c.v]] w _
  have HG := Lib.hid (show Below w.heap.size w (w.alloc (.cells #[.int .u32 c.n, .string c.k, .bool c.h, .string c.v] 130)) from (Below.refl _ w).alloc (Nat.le_refl _) _)
  go_enter Tryz.func89, Tryz.ntmps89
  go_wp2
  go_ret
  exact ⟨by congr 2, HG.out⟩
/-- the bytes that count -/
def btsB (c : Ck) : ByteArray := c.v.extract 0 (min c.v.size 128)
theorem btsB_size (c : Ck) : (btsB c).size = min c.v.size 128 := by unfold btsB; simp
theorem btsB_list (c : Ck) : (btsB c).data.toList = c.v.data.toList.take 128 := by
  unfold btsB
  rw [ByteArray.data_extract, Array.toList_extract, List.extract_eq_take_drop, List.drop_zero, Nat.sub_zero]
  have hl : c.v.data.toList.length = c.v.size := by rw [Array.length_toList]; rfl
  by_cases h : c.v.size ≤ 128
  · rw [Nat.min_eq_left h, List.take_of_length_le (by omega), List.take_of_length_le (by omega)]
  · rw [Nat.min_eq_right (by omega)]
theorem bytes_any (c : Ck) (h : c.v.size ≤ maxLen) (w : World) :
    Calls Tryz.prog 75 #[.agg (enC c).toArray] w fun e w' => e = .returned (.string (btsB c)) ∧ Below w.heap.size w w' := by
  show Calls Tryz.prog 75 #[.agg #[.int .u32 c.n, .string c.k, .bool c.h, .string c.v]] w _
  unfold maxLen at h
  have HG := Lib.hid (show Below w.heap.size w (w.alloc (.cells #[.int .u32 c.n, .string c.k, .bool c.h, .string c.v] 130)) from (Below.refl _ w).alloc (Nat.le_refl _) _)
  unfold btsB
  by_cases hs : c.v.size ≤ 128
  · rw [Nat.min_eq_left hs, show c.v.extract 0 c.v.size = c.v by simp]
    have hs1 : min (c.v.size : Int) 128 = (c.v.size : Int) := by omega
    go_enter Tryz.func75, Tryz.ntmps75
    go_wp2
    go_ret
    exact ⟨rfl, HG.out⟩
  · rw [Nat.min_eq_right (by omega)]
    have hs1 : min (c.v.size : Int) 128 = 128 := by omega
    have hs2 : (128 : Int) ≤ (c.v.size : Int) := by omega
    go_enter Tryz.func75, Tryz.ntmps75
    go_wp2
    go_ret
    exact ⟨rfl, HG.out⟩
/-- the change behind which a chunk is as it is -/
def akC (c : Ck) : Ch := ⟨c.k, c.h, c.v⟩
theorem asKept_any (c : Ck) (w : World) :
    Calls Tryz.prog 76 #[.agg (enC c).toArray] w fun e w' => e = .returned (.agg (Sc.enc (akC c)).toArray) ∧ Below w.heap.size w w' := by
  show Calls Tryz.prog 76 #[.agg #[.int .u32 c.n, .string c.k, .bool c.h, .string c.v]] w fun e w' => e = .returned (.agg #[.string c.k, .bool c.h, .string c.v]) ∧ Below w.heap.size w w'
  go_enter Tryz.func76, Tryz.ntmps76
  go_wp2
  refine bodyPost_ret (v := .agg #[.string c.k, .bool c.h, .string c.v]) (by simp [results, Tryz.results76, go_sem]) rfl ?_
  exact ⟨rfl, ((Below.refl _ _).alloc (Nat.le_refl _) _).alloc (by simp) _⟩
/-- the change behind which a chunk has bytes -/
def kpC (k b : ByteArray) : Ch := ⟨k, decide (0 < (Tm.cutB b).size), Tm.cutB b⟩
theorem keep_any (k b : ByteArray) (hb : b.size ≤ 9223372036854775807) (w : World) :
    Calls Tryz.prog 73 #[.string k, .string b] w fun e w' => e = .returned (.agg (Sc.enc (kpC k b)).toArray) ∧ Below w.heap.size w w' := by
  have HT := Lib.hid (fun w => Tm.trimRight_any b hb w)
  by_cases h0 : (Tm.cutB b).size = 0
  · have hk : (Sc.enc (kpC k b)).toArray = #[.string k, .bool false, .string (Tm.cutB b)] := by unfold kpC Sc.enc; rw [h0]; rfl
    rw [hk]
    have s3 := se3 h0
    clear hk h0 hb
    generalize Tm.cutB b = t at *
    go_enter Tryz.func73, Tryz.ntmps73
    go_wp2_with fail
    refine (HT.out _).mono ?_
    rintro e w1 ⟨rfl, rfl⟩
    go_wp2
    refine bodyPost_ret (v := .agg #[.string k, .bool false, .string t]) (by simp [results, Tryz.results73, go_sem]) rfl ?_
    exact ⟨rfl, (Below.refl _ _).alloc (Nat.le_refl _) _⟩
  · have hk : (Sc.enc (kpC k b)).toArray = #[.string k, .bool true, .string (Tm.cutB b)] := by unfold kpC Sc.enc; rw [decide_eq_true (by omega)]
    rw [hk]
    have s1 := se1 h0
    have s2 := se2 h0
    clear hk h0 hb
    generalize Tm.cutB b = t at *
    go_enter Tryz.func73, Tryz.ntmps73
    go_wp2_with fail
    refine (HT.out _).mono ?_
    rintro e w1 ⟨rfl, rfl⟩
    go_wp2
    refine bodyPost_ret (v := .agg #[.string k, .bool true, .string t]) (by simp [results, Tryz.results73, go_sem]) rfl ?_
    exact ⟨rfl, (Below.refl _ _).alloc (Nat.le_refl _) _⟩
/-- bytes laid into a row of bytes: as many as there are, or as fit -/
def cpy (L : List UInt8) (o n : Nat) (S : List UInt8) : List UInt8 := L.take o ++ S.take n ++ L.drop (o + min S.length n)
theorem cpy_len {L S : List UInt8} {o n : Nat} (h : o + n ≤ L.length) : (cpy L o n S).length = L.length := by
  unfold cpy
  simp only [List.length_append, List.length_take, List.length_drop]
  omega
theorem run_copy_u8 {P : Program} (w : World) (dT sT ty elem : TypeId) (g o dLen dCap : Nat) (s : ByteArray) (L : List UInt8) (t : TypeId)
    (hu : P.underlying dT = some (.slice elem)) (hs : (P.info? elem).map (·.size) = some 1) (hg : w.heap[g]? = some (.cells (u8s L).toArray t (0, 0))) (hfit : o + dLen ≤ L.length) :
    (Builtin.copy_ #[dT, sT] ty #[.slice (some ⟨g, o, none⟩) dLen dCap, .string s]).run P w =
      .ok (goInt (min s.size dLen)) (w.setRow g (u8s (cpy L o dLen s.data.toList)).toArray) := by
  have hsl : s.data.toList.length = s.size := by rw [Array.length_toList]; rfl
  obtain ⟨k, hk⟩ : ∃ k, min s.size dLen = k := ⟨_, rfl⟩
  have htk0 : s.data.toList.take dLen = s.data.toList.take k := by
    rw [← hk]
    by_cases h : dLen ≤ s.size
    · rw [Nat.min_eq_right h]
    · rw [Nat.min_eq_left (by omega), List.take_of_length_le (by omega), List.take_of_length_le (by omega)]
  have hlen : (Lib.byteCells (s.data.toList.take k)).length = k := by rw [Lib.byteCells_length, List.length_take, hsl]; omega
  have hst := run_storeCells_at P g o t (Lib.byteCells (s.data.toList.take k)) 0 (u8s L).toArray w hg (by rw [hlen, List.size_toArray, u8s_length]; omega) (Lib.byteCells_one _)
  have hmin : Nat.min s.size dLen = k := hk
  have htk : List.take k (List.map (fun b : UInt8 => Value.int IntKind.u8 (b.toNat : Int)) s.data.toList) = Lib.byteCells (s.data.toList.take k) := by
    unfold Lib.byteCells
    rw [List.map_take]
  rw [hlen] at hst
  simp only [Nat.add_zero] at hst
  have hnew : ((u8s L).toArray.toList.take o ++ Lib.byteCells (s.data.toList.take k) ++ (u8s L).toArray.toList.drop (o + k)).toArray = (u8s (cpy L o dLen s.data.toList)).toArray := by
    unfold cpy u8s Lib.byteCells
    rw [List.toList_toArray, hsl, hk, htk0]
    simp only [List.map_append, List.map_take, List.map_drop]
  rw [hnew] at hst
  cases hq : P.info? elem with
  | none => simp [hq] at hs
  | some i =>
    simp [Builtin.copy_, run_underlying hu, Builtin.lenOf, Builtin.firstCells, sizeOf, typeInfo, hq, hmin, hk]
    rw [htk, hst]
    simp only [Result.andThen]
    congr 1
    congr 1
    omega
theorem wpList_copy_u8 {P : Program} {ops : Array Oper} {rest : List Oper} {o : Oper} {a : Act} {w : World} {Q : Exit → Act → World → Prop}
    (hgd : o.guard = none) (d x : Operand) (dT sT : TypeId) (hop : o.op = Op.call { callee := Callee.builtin Builtin.copy, args := #[d, x], argTypes := #[dT, sT] })
    (elem : TypeId) (hu : P.underlying dT = some (.slice elem)) (hs : (P.info? elem).map (·.size) = some 1) (g off dLen dCap : Nat) (hd : a.eval d = .slice (some ⟨g, off, none⟩) dLen dCap) (s : ByteArray) (hx : a.eval x = .string s)
    (L : List UInt8) (t : TypeId) (hg : w.heap[g]? = some (.cells (u8s L).toArray t (0, 0))) (hfit : off + dLen ≤ L.length)
    (hK : ∀ v, wpList P ops Q rest (a.put o.dst v) (w.setRow g (u8s (cpy L off dLen s.data.toList)).toArray)) :
    wpList P ops Q (o :: rest) a w := by
  refine wpList_plain hgd fun K hK' => ?_
  have hrun := run_copy_u8 (P := P) w dT sT o.type elem g off dLen dCap s L t hu hs hg hfit
  unfold Oper.wp
  simp [execOp, hop, resolve, invoke, builtin, hd, hx, hrun, Result.andThen]
  exact hK' _ _ (by simpa using hK _)
theorem infB1 : (Tryz.prog.info? 5).map (fun i => (i.zero, i.size, i.bytes)) = some (some (.int .u8 0), 1, 1) := by kernel_rfl
theorem info8 : (Tryz.prog.info? 5).map (·.size) = some 1 := by kernel_rfl
theorem made_u8 (n : Nat) : madeCells #[Value.int .u8 0] n = (u8s (List.replicate n 0)).toArray := by
  apply Array.toList_inj.1
  rw [toList_madeCells_one]
  simp [u8s]
theorem zeros_make (n : Nat) (hn : n ≤ 1048576) (w : World) : (Instr.makeSlice 60 (.int .i64 n) (.int .i64 n)).run Tryz.prog w = .ok (.slice (some ⟨w.heap.size, 0, none⟩) n n) (w.alloc (.cells (u8s (List.replicate n 0)).toArray 5)) := by
  rw [← made_u8]
  exact run_make_row' (P := Tryz.prog) 60 5 (.int .u8 0) 1 Tryz.underlying60 infB1 rfl .i64 .i64 n (by omega) (by omega) w
theorem conv_row (L : List UInt8) (n g : Nat) (hn : L.length = n) (w : World) {t : TypeId} {fr : Nat × Nat} (hg : w.heap[g]? = some (.cells (u8s L).toArray t fr)) : (convert 60 9 (.slice (some ⟨g, 0, none⟩) n n)).run Tryz.prog w = .ok (.string ⟨L.toArray⟩) w := by
  have := run_convert_bytes_back (P := Tryz.prog) w 60 9 5 ⟨g, 0, none⟩ n L Tryz.underlying60 Tryz.underlying5 Tryz.underlying9 (fun j hj => by
    rw [Ar.add_plain, Nat.zero_add, cell_of_row _ _ j _ _ _ hg]
    have : ((u8s L).toArray)[j]? = some (.int .u8 ((L[j]).toNat : Int)) := by
      rw [List.getElem?_toArray]
      unfold u8s
      rw [List.getElem?_map, List.getElem?_eq_getElem hj]
      rfl
    rw [this])
  rw [hn] at this
  exact this
/-- a text with bytes at their place -/
def laidL (t : List UInt8) (a : Nat) (b : List UInt8) : List UInt8 :=
  cpy (cpy (List.replicate (max t.length (a + b.length)) 0) 0 (max t.length (a + b.length)) t) a (max t.length (a + b.length) - a) b
theorem grown_row {w0 w : World} {g : Nat} (h : Below w0.heap.size w0 w) (hg : w0.heap.size ≤ g) (cs : Array Value) : Below w0.heap.size w0 (w.setRow g cs) :=
  below_setRow h hg cs
set_option maxHeartbeats 2000000 in
theorem laid_any (t : ByteArray) (a : Nat) (b : ByteArray) (ht : t.size ≤ 128) (ha : a ≤ 127) (hb : b.size ≤ 128) (h1 : 1 ≤ b.size) (w : World) :
    Calls Tryz.prog 74 #[.string t, .int .i64 a, .string b] w fun e w' => e = .returned (.string ⟨(laidL t.data.toList a b.data.toList).toArray⟩) ∧ Below w.heap.size w w' := by
  have htl : t.data.toList.length = t.size := by rw [Array.length_toList]; rfl
  have hbl : b.data.toList.length = b.size := by rw [Array.length_toList]; rfl
  obtain ⟨m, hm⟩ : ∃ m, max t.size (a + b.size) = m := ⟨_, rfl⟩
  have hmi : max (t.size : Int) ((a : Int) + (b.size : Int)) = (m : Int) := by omega
  have hL : laidL t.data.toList a b.data.toList = cpy (cpy (List.replicate m 0) 0 m t.data.toList) a (m - a) b.data.toList := by unfold laidL; rw [htl, hbl, hm]
  rw [hL]
  have l1 : (cpy (List.replicate m 0) 0 m t.data.toList).length = m := by rw [cpy_len (by rw [List.length_replicate]; omega), List.length_replicate]
  have l2 : (cpy (cpy (List.replicate m 0) 0 m t.data.toList) a (m - a) b.data.toList).length = m := by rw [cpy_len (by rw [l1]; omega), l1]
  have hma : a < m := by omega
  have hm2 : m ≤ 256 := by omega
  have hmk := zeros_make m (by omega) w
  have HR0 := Lib.hid (heap_alloc_new w (.cells (u8s (List.replicate m 0)).toArray 5))
  have HB0 := Lib.hid (show Below w.heap.size w (w.alloc (.cells (u8s (List.replicate m 0)).toArray 5)) from (Below.refl _ _).alloc (Nat.le_refl _) _)
  have HL1 := Lib.hid l1
  have HL2 := Lib.hid l2
  have HMI := Lib.hid hmi
  have e1 : ((m : Int) - (a : Int)) = ((m - a : Nat) : Int) := by omega
  have e2 : (a : Int) ≤ (m : Int) := by omega
  have e3 : ¬ (m = a) := by omega
  have e4 : ¬ ((m : Int) = (a : Int)) := by omega
  clear hL hm l1 l2 htl hbl
  generalize w.alloc _ = w1 at *
  obtain ⟨v1, hcp1⟩ : ∃ v, (Builtin.copy_ #[60, 9] 3 #[.slice (some ⟨w.heap.size, 0, none⟩) m m, .string t]).run Tryz.prog w1 = .ok v (w1.setRow w.heap.size (u8s (cpy (List.replicate m 0) 0 m t.data.toList)).toArray) := ⟨_, run_copy_u8 w1 _ _ _ 5 w.heap.size 0 m m t (List.replicate m 0) 5 Tryz.underlying60 info8 HR0.out (by rw [List.length_replicate]; omega)⟩
  have HR2 := Lib.hid (setRow_heap' (cs := (u8s (cpy (List.replicate m 0) 0 m t.data.toList)).toArray) HR0.out)
  have HB2 := Lib.hid (grown_row HB0.out (Nat.le_refl _) (u8s (cpy (List.replicate m 0) 0 m t.data.toList)).toArray)
  generalize w1.setRow _ _ = w2 at *
  obtain ⟨v2, hcp2⟩ : ∃ v, (Builtin.copy_ #[60, 9] 3 #[.slice (some ⟨w.heap.size, a, none⟩) (m - a) (m - a), .string b]).run Tryz.prog w2 = .ok v (w2.setRow w.heap.size (u8s (cpy (cpy (List.replicate m 0) 0 m t.data.toList) a (m - a) b.data.toList)).toArray) := ⟨_, run_copy_u8 w2 _ _ _ 5 w.heap.size a (m - a) (m - a) b _ 5 Tryz.underlying60 info8 HR2.out (by rw [HL1.out]; omega)⟩
  have HR3 := Lib.hid (setRow_heap' (cs := (u8s (cpy (cpy (List.replicate m 0) 0 m t.data.toList) a (m - a) b.data.toList)).toArray) HR2.out)
  have HB3 := Lib.hid (grown_row HB2.out (Nat.le_refl _) (u8s (cpy (cpy (List.replicate m 0) 0 m t.data.toList) a (m - a) b.data.toList)).toArray)
  generalize w2.setRow _ _ = w3 at *
  have hcv := conv_row _ m w.heap.size HL2.out w3 HR3.out
  generalize cpy (cpy (List.replicate m 0) 0 m t.data.toList) a (m - a) b.data.toList = L2 at *
  clear HR0 HR2 HR3 HL1 HL2 HB0 HB2
  go_enter Tryz.func74, Tryz.ntmps74
  go_wp2
  go_ret
  exact ⟨rfl, HB3.out⟩
end Go.Proofs.YtjkmfonngbendaaGreatDoor.Da
/- Plain mathematics: an inode's chunks rise, and are few. -/
namespace Go.Proofs.YtjkmfonngbendaaGreatDoor.Da
set_option linter.unusedVariables false
set_option linter.unusedSimpArgs false
open Pk (be bytesLess_be)
open It (Itm Ch rt und key pre UpK rt_iff okI okKey lt)
open Ino (wrK wrK_pfx pfx deK deKE)
def UpC (D : List Ck) : Prop := D.Pairwise fun a b => a.n < b.n
theorem bl_app (p x y : List UInt8) : Op.bytesLess (p ++ x) (p ++ y) = Op.bytesLess x y := by
  induction p with
  | nil => rfl
  | cons a p ih =>
    show (decide (a < a) || (a == a && Op.bytesLess (p ++ x) (p ++ y))) = _
    rw [ih, beq_self_eq_true]
    simp [UInt8.lt_irrefl]
theorem cky_lt {I j k : Nat} (hI : 1 ≤ I) (hj : j < 512) (hk : k < 512) : lt (cky I j).data.toList (cky I k).data.toList = decide (j < k) := by
  have e : ∀ {k}, k < 512 → (cky I k).data.toList = (pfx 3 I).data.toList ++ be 4 k := by
    intro k hk
    obtain ⟨h, _⟩ := wrK_pfx (kyC_ok hI hk)
    unfold cky
    rw [h, ByteArray.data_append, Array.toList_append]
    rfl
  show Op.bytesLess _ _ = _
  rw [e hj, e hk, bl_app, bytesLess_be, Nat.mod_eq_of_lt (show j < 256 ^ 4 by omega), Nat.mod_eq_of_lt (show k < 256 ^ 4 by omega)]
theorem chs_up {D : List Itm} {I : Nat} (hr : rt D = true) (hI : 1 ≤ I) (hI2 : I < 4294967296) : UpC (chs D I) := by
  unfold chs UpC
  rw [List.pairwise_filterMap]
  have hu : UpK key (und D (pfx 3 I)) := (rt_iff.1 hr).1.sub List.filter_sublist
  refine List.Pairwise.imp_of_mem (fun {a b} ha hb hlt => ?_) hu
  intro c hc d hd
  have ga := (List.mem_filter.1 ha).2
  have gb := (List.mem_filter.1 hb).2
  unfold ckOf at hc hd
  split at hc
  · rename_i ka
    split at hd
    · rename_i kb
      obtain ⟨j, j1, j2, j3⟩ := ck_key hI hI2 ga ka
      obtain ⟨k, k1, k2, k3⟩ := ck_key hI hI2 gb kb
      rw [← Option.some.inj hc, ← Option.some.inj hd]
      show (deK a.k).C < (deK b.k).C
      rw [j3, k3]
      have : lt (cky I j).data.toList (cky I k).data.toList = true := by rw [← j2, ← k2]; exact hlt
      rw [cky_lt hI j1 k1] at this
      exact of_decide_eq_true this
    · cases hd
  · cases hc
theorem chs_sz {D : List Itm} {I : Nat} (hr : rt D = true) (hI : 1 ≤ I) (hI2 : I < 4294967296) : ∀ c ∈ chs D I, c.n < 512 ∧ c.v.size ≤ 160 := by
  intro c hc
  obtain ⟨k, v, hk, hm, rfl⟩ := (mem_chs hI hI2 c).1 hc
  have := (rt_iff.1 hr).2 _ hm
  simp only [okI, okKey, Bool.and_eq_true, decide_eq_true_iff] at this
  exact ⟨hk, this.2⟩
theorem up_len : ∀ {E : List Ck} {k : Nat}, UpC E → (∀ c ∈ E, k ≤ c.n ∧ c.n < 512) → k + E.length ≤ 512 ∨ E = []
  | [], k, _, _ => .inr rfl
  | c :: E, k, hu, hz => by
    left
    obtain ⟨h1, h2⟩ := List.pairwise_cons.1 hu
    have hc := hz c List.mem_cons_self
    rcases up_len (k := c.n + 1) h2 (fun d hd => ⟨h1 d hd, (hz d (List.mem_cons_of_mem _ hd)).2⟩) with h | h
    · rw [List.length_cons]; omega
    · subst h; rw [List.length_singleton]; omega
theorem up_len' {E : List Ck} (hu : UpC E) (hz : ∀ c ∈ E, c.n < 512) : E.length ≤ 512 := by
  rcases up_len (k := 0) hu (fun c hc => ⟨Nat.zero_le _, hz c hc⟩) with h | h
  · omega
  · subst h; exact Nat.zero_le _
theorem chs_few {D : List Itm} {I : Nat} (hr : rt D = true) (hI : 1 ≤ I) (hI2 : I < 4294967296) : (chs D I).length ≤ 512 := up_len' (chs_up hr hI hI2) (fun c hc => (chs_sz hr hI hI2 c hc).1)
theorem chs_part {D : List Itm} {I : Nat} (hr : rt D = true) (hI : 1 ≤ I) (hI2 : I < 4294967296) (i : Nat) : (((und D (pfx 3 I)).take i).filterMap ckOf).length ≤ 512 :=
  Nat.le_trans (((List.take_sublist i (und D (pfx 3 I))).filterMap ckOf).length_le) (chs_few hr hI hI2)
end Go.Proofs.YtjkmfonngbendaaGreatDoor.Da
/- Contract of package data's chunksOf. -/
namespace Go.Proofs.YtjkmfonngbendaaGreatDoor.Da
set_option linter.unusedVariables false
set_option linter.unusedSimpArgs false
set_option maxRecDepth 100000
open Go.ChangeShapes Go.WideShapes Go.ChangeAt Go.RowKit
open Ar Rg
open Pk (u8s u8s_length)
open It (Itm Ch MkI MkC rt und key infoI er okI_sizes)
open Ino (vK deK deKE pfx prefix_in parse_in)
theorem infoK : (Tryz.prog.info? 130).map (fun i => (i.zero, i.size, i.bytes)) = some (some (.agg #[.int .u32 0, .string ByteArray.empty, .bool false, .string ByteArray.empty]), 4, 48) := by kernel_rfl
/-- chunks of the call's own -/
abbrev MkK (w wr : World) (v : Value) (D : List Ck) : Prop := Mk enC 4 130 w wr v D
theorem catK {ops : Array Oper} {rest : List Oper} {o : Oper} {a : Act} {Q : Exit → Act → World → Prop} {w wr : World} {v : Value} {D : List Ck} (hM : MkK w wr v D) (E : List Ck) (A : Option Addr) (m c : Nat) {B : Nat} (hm : m = E.length) (hL : Ls enC 4 wr B A E) (hlen : D.length + m ≤ 2932031007402)
    (hgd : o.guard = none) (s x : Operand) (ho : o.op = .call { callee := .builtin .append, args := #[s, x], argTypes := #[68, 68] }) (hs : a.eval s = v) (hx : a.eval x = .slice A m c)
    (h : ∀ v' w', MkK w w' v' (D ++ E) → wr.grownBy w' v.ownBlock → wpList Tryz.prog ops Q rest (a.put o.dst v') w') : wpList Tryz.prog ops Q (o :: rest) a wr := by
  obtain ⟨i0, hi, hz0, hz1, hz2⟩ := info_parts infoK
  exact wpList_cat 68 i0 _ 48 Tryz.underlying68 hi hz0 hz1 hz2 rfl (by decide) enC_len enC_one hM m c hm hL (by unfold maxLen; omega) (by omega) hgd s x ho hs hx h
/-- chunksOf's error -/
def ec (D : List Itm) (I : Nat) : Int := if rt D then (if I = 0 then 1 else 0) else 4
theorem fm_sn {U : List Itm} {i : Nat} {x : Itm} (h : U[i]? = some x) : (U.take (i + 1)).filterMap ckOf = (U.take i).filterMap ckOf ++ (match ckOf x with | some c => [c] | none => []) := by
  rw [List.take_add_one, h, List.filterMap_append]
  cases hc : ckOf x <;> simp [hc]
theorem ls_new_at (w : World) (x : Ck) (e : TypeId) (k B : Nat) (hk : w.heap.size = k) (hB : k < B) : Ls enC 4 (w.alloc (.cells (enC x).toArray e)) B (some ⟨k, 0, none⟩) [x] := by
  subst hk
  exact Ls.new w x e B hB
theorem und_mem {D : List Itm} {p : ByteArray} {x : Itm} (h : x ∈ und D p) : x ∈ D := (List.mem_filter.1 h).1
set_option maxHeartbeats 4000000 in
theorem chunksOf_any (D : List Itm) (I : Nat) (hI : I < 4294967296) (A : Option Addr) (n c B : Nat) (hn : n = D.length) (hc : n ≤ c) (hcm : c ≤ maxLen) (hlen : n ≤ 4398046511104) (w : World) (hB : B ≤ w.heap.size) (hD : Ls It.enc 2 w B A D) :
    Calls Tryz.prog 34 #[.slice A n c, .int .u32 I] w fun e w' => ∃ v, e = .returned (.tuple #[v, .int .i64 (ec D I)]) ∧ MkK w w' v (if ec D I = 0 then chs D I else []) := by
  have HP := Lib.hid (fun w => prefix_in 3 I (by omega) hI w)
  have HU := Lib.hid (fun (w1 : World) (hb : Below w.heap.size w w1) (p : ByteArray) (hp : p.size ≤ 9223372036854775807) => It.under_any D p hp A n c B hn hc hcm (by omega) w1 (Nat.le_trans hB hb.size) (hD.below (hb.mono hB)))
  have hps : (pfx 3 I).size ≤ 9223372036854775807 := by
    unfold pfx
    split
    · decide
    · rw [ByteArray.size_append, Pk.bs_size, Pk.bs_size, Pk.be_length]
      have : (Ino.lt 3).length ≤ 1 := by decide
      omega
  have HPS := Lib.hid hps
  have hun : (und D (pfx 3 I)).length ≤ 4398046511104 := by
    have : (und D (pfx 3 I)).length ≤ D.length := List.length_filter_le _ _
    omega
  have HUN := Lib.hid hun
  have HSZ := Lib.hid (fun (hr : rt D = true) (x : Itm) (hx : x ∈ und D (pfx 3 I)) => (by
    obtain ⟨i, hi, e⟩ := List.getElem_of_mem (und_mem hx)
    exact okI_sizes hr (i := i) (x := x) (by rw [List.getElem?_eq_getElem hi, e]) : x.k.size ≤ 48 ∧ x.v.size ≤ 160))
  have HC := Lib.hid (show chs D I = (und D (pfx 3 I)).filterMap ckOf from rfl)
  clear hps hun hn hc hcm hlen hD
  cases hr : rt D
  · have HE := Lib.hid (show ec D I = 4 by unfold ec; rw [hr]; rfl)
    rw [HE.out]
    rw [hr, show er false = 4 from rfl] at HU
    clear hr
    go_enter Tryz.func34, Tryz.ntmps34
    go_wp2_with fail
    refine (HP.out _).mono ?_
    rintro e w1 ⟨rfl, hb1⟩
    have HB1 := Lib.hid hb1
    clear hb1
    go_wp2_with fail
    refine (HU.out _ HB1.out _ HPS.out).mono ?_
    rintro e w2 ⟨v, rfl, hm⟩
    have HM := Lib.hid (HB1.out.trans (hm.2.mono HB1.out.size))
    obtain ⟨A1, c1, rfl, _⟩ := hm.ls It.enc_len
    clear hm
    go_wp2
    go_ret2
    exact ⟨_, rfl, Mk.nil HM.out⟩
  · rw [hr, show er true = 0 from rfl] at HU
    have HR := Lib.hid hr
    by_cases h0 : I = 0
    · have HE := Lib.hid (show ec D I = 1 by unfold ec; rw [hr, h0]; rfl)
      rw [HE.out]
      have q0 : ((I : Int) == 0) = true := by rw [h0]; rfl
      clear hr h0
      go_enter Tryz.func34, Tryz.ntmps34
      go_wp2_with fail
      refine (HP.out _).mono ?_
      rintro e w1 ⟨rfl, hb1⟩
      have HB1 := Lib.hid hb1
      clear hb1
      go_wp2_with fail
      refine (HU.out _ HB1.out _ HPS.out).mono ?_
      rintro e w2 ⟨v, rfl, hm⟩
      have HM := Lib.hid (HB1.out.trans (hm.2.mono HB1.out.size))
      obtain ⟨A1, c1, rfl, _⟩ := hm.ls It.enc_len
      clear hm
      go_wp2
      go_ret2
      exact ⟨_, rfl, Mk.nil HM.out⟩
    · have HE := Lib.hid (show ec D I = 0 by unfold ec; rw [hr, if_pos rfl, if_neg h0])
      rw [HE.out, HC.out]
      have q0 : ((I : Int) == 0) = false := by rw [beq_eq_false_iff_ne]; omega
      have hI1 : 1 ≤ I := by omega
      clear hr h0
      go_enter Tryz.func34, Tryz.ntmps34
      go_wp2_with fail
      refine (HP.out _).mono ?_
      rintro e w1 ⟨rfl, hb1⟩
      have HB1 := Lib.hid hb1
      clear hb1
      go_wp2_with fail
      refine (HU.out _ HB1.out _ HPS.out).mono ?_
      rintro e w2 ⟨v, rfl, hm⟩
      have HB2 := Lib.hid (HB1.out.trans (hm.2.mono HB1.out.size))
      obtain ⟨A1, c1, hv, _, _, hl1⟩ := hm.ls It.enc_len
      obtain ⟨m, hmm⟩ : ∃ m, (und D (pfx 3 I)).length = m := ⟨_, rfl⟩
      have hl1' : Ls It.enc 2 w2 w2.heap.size A1 (und D (pfx 3 I)) := hl1
      have hv' : v = .slice A1 (und D (pfx 3 I)).length c1 := hv
      rw [hmm] at hv'
      subst hv'
      have HL1 := Lib.hid hl1'
      have HMM := Lib.hid hmm
      have HMX := Lib.hid (show m ≤ 4398046511104 by rw [← hmm]; exact HUN.out)
      have HSZ2 := Lib.hid (fun x hx => HSZ.out HR.out x hx)
      have HPT := Lib.hid (fun i => chs_part HR.out (by omega) hI i)
      clear hm hl1 hl1' hmm hv HU HP HSZ HUN HPS HC HB1 HE
      generalize hU : und D (pfx 3 I) = U at *
      have HUU := Lib.hid hU
      clear hU
      go_wp2_with fail
      go_loopw [8, 27] (fun av v wr => ∃ (i : Nat) (E : List Ck), i ≤ m ∧ v = .int .i64 i ∧ Hid (E = (U.take i).filterMap ckOf) ∧ Hid (E.length ≤ i) ∧ Hid (MkK w2 wr av E)) (fun _ v _ => m - (intOf v).toNat)
      case atStart => exact ⟨0, [], Nat.zero_le _, by go_num, rfl, Nat.le_refl _, Mk.nil (Below.refl _ _)⟩
      case round =>
        obtain ⟨i, E, hi, rfl, hE, hEl, hmk⟩ := hrel
        have hm9 : m ≤ 4398046511104 := HMX.out
        by_cases hlt : i < m
        · obtain ⟨x, hx⟩ : ∃ x, U[i]? = some x := ⟨_, List.getElem?_eq_getElem (by rw [HMM.out]; exact hlt)⟩
          obtain ⟨hk48, hv160⟩ := HSZ2.out x (List.mem_of_getElem? hx)
          obtain ⟨b, o, hAe, hb, hrg⟩ := (HL1.out.below (Hid.out hmk).2) i x hx
          have hbs : b < wr.heap.size := Nat.lt_of_lt_of_le hb (Hid.out hmk).2.size
          have hc0 : wr.cell? ⟨b, o + i * 2, none⟩ = some (.string x.k) := hrg 0 _ rfl
          have hc1 : wr.cell? ⟨b, o + i * 2 + 1, none⟩ = some (.string x.v) := hrg 1 _ rfl
          have hd0 : (wr.alloc (.cells #[.string x.k, .string x.v] 82)).cell? ⟨wr.heap.size, 0, none⟩ = some (.string x.k) := by simp
          have HDR := Lib.hid (heap_alloc_new wr (.cells #[.string x.k, .string x.v] 82))
          have HPA := Lib.hid (fun w => parse_in x.k (by unfold maxLen; omega) w)
          have HM := Lib.hid ((Hid.out hmk).alloc (.cells #[.string x.k, .string x.v] 82))
          have HDN := Lib.hid (fm_sn hx)
          have HE5 := Lib.hid (show E.length ≤ 512 by rw [Hid.out hE]; exact HPT.out i)
          rw [← Hid.out hE] at HDN
          have HEL := Lib.hid (Hid.out hEl)
          clear hrg hmk hx hE hEl
          subst hAe
          go_wp2_with fail
          clear hc0 hc1 hd0
          generalize wr.alloc _ = w3 at *
          refine (HPA.out _).mono ?_
          rintro e w4 ⟨rfl, hb4⟩
          have HDR4 := Lib.hid ((hb4.block _ (row_lt HDR.out)).trans HDR.out)
          have HM4 := Lib.hid (HM.out.go hb4)
          have hgl := row_lt HDR4.out
          have d0 : w4.cell? ⟨wr.heap.size, 0, none⟩ = some (.string x.k) := cell_of_row _ _ 0 _ _ _ HDR4.out
          have d1 : w4.cell? ⟨wr.heap.size, 1, none⟩ = some (.string x.v) := cell_of_row _ _ 1 _ _ _ HDR4.out
          clear hb4 HDR HM HPA
          generalize wr.heap.size = g at *
          by_cases hk : deKE x.k = 0
          · have HCK := Lib.hid (show (match ckOf x with | some c => [c] | none => []) = [(⟨(deK x.k).C, x.k, true, x.v⟩ : Ck)] by unfold ckOf; rw [if_pos hk])
            have qk : (deKE x.k == 0) = true := by rw [hk]; rfl
            have HEL2 := Lib.hid (show (E ++ [(⟨(deK x.k).C, x.k, true, x.v⟩ : Ck)]).length ≤ i + 1 by rw [List.length_append]; have := HEL.out; simp; exact this)
            have HDL := Lib.hid (show E.length + 1 ≤ 2932031007402 by have := HE5.out; omega)
            unfold vK
            generalize deK x.k = q at *
            generalize deKE x.k = q9 at *
            clear hk
            have hb9 : Below w4.heap.size w4 (w4.alloc (.cells #[.int .u8 q.K, .int .u32 q.I, .string q.N, .int .u32 q.C] 37)) := (Below.refl _ _).alloc (Nat.le_refl _) _
            have e0 : (w4.alloc (.cells #[.int .u8 q.K, .int .u32 q.I, .string q.N, .int .u32 q.C] 37)).cell? ⟨g, 0, none⟩ = some (.string x.k) := (hb9.cell (p := ⟨g, 0, none⟩) hgl).trans d0
            have e1 : (w4.alloc (.cells #[.int .u8 q.K, .int .u32 q.I, .string q.N, .int .u32 q.C] 37)).cell? ⟨g, 1, none⟩ = some (.string x.v) := (hb9.cell (p := ⟨g, 1, none⟩) hgl).trans d1
            clear hb9
            go_wp2_with (at_builtin; refine catK ((HM4.out.alloc _).alloc _) [⟨q.C, x.k, true, x.v⟩] _ 1 1 rfl (ls_new_at _ (⟨q.C, x.k, true, x.v⟩ : Ck) _ (w4.heap.size + 1) (w4.heap.size + 2) (by simp) (Nat.lt_succ_self _)) HDL.out rfl _ _ rfl rfl rfl ?_; intro v3 w5 hM3 hG3; have HM5 := Lib.hid hM3; clear hM3 hG3)
            exact ⟨⟨i + 1, _, by omega, by go_num, (by rw [HDN.out, HCK.out] : E ++ [(⟨q.C, x.k, true, x.v⟩ : Ck)] = _), HEL2.out, HM5.out⟩, by simp [intOf] <;> omega⟩
          · have HCK := Lib.hid (show (match ckOf x with | some c => [c] | none => []) = [] by unfold ckOf; rw [if_neg hk])
            have qk : (deKE x.k == 0) = false := by rw [beq_eq_false_iff_ne]; exact hk
            have HEL2 := Lib.hid (show E.length ≤ i + 1 by have := HEL.out; omega)
            have HM5 := Lib.hid (HM4.out.alloc (.cells #[.int .u8 (deK x.k).K, .int .u32 (deK x.k).I, .string (deK x.k).N, .int .u32 (deK x.k).C] 37))
            unfold vK
            generalize deK x.k = q at *
            generalize deKE x.k = q9 at *
            clear hk
            go_wp2_with fail
            exact ⟨⟨i + 1, E, by omega, by go_num, (by rw [HDN.out, HCK.out, List.append_nil] : E = _), HEL2.out, HM5.out⟩, by simp [intOf] <;> omega⟩
        · have HEE := Lib.hid (show E = U.filterMap ckOf by have h := Hid.out hE; rwa [List.take_of_length_le (by rw [HMM.out]; omega)] at h)
          have HM := Lib.hid ((Hid.out hmk).since HB2.out)
          obtain ⟨A5, c5, hv5, _⟩ := (Hid.out hmk).ls enC_len
          subst hv5
          clear hE hEl hmk
          go_wp2
          go_ret2
          exact ⟨_, rfl, by simp only [if_true]; rw [HUU.out, ← HEE.out]; exact HM.out⟩
end Go.Proofs.YtjkmfonngbendaaGreatDoor.Da
/- Contract of package data's find: a chunk by its number, by halves. -/
namespace Go.Proofs.YtjkmfonngbendaaGreatDoor.Da
set_option linter.unusedVariables false
set_option linter.unusedSimpArgs false
set_option maxRecDepth 100000
open Go.ChangeShapes Go.WideShapes Go.ChangeAt Go.RowKit
open Ar Rg
open It (Itm Ch)
open Ino (vK key_in enK chK okK)
def cn (a b : Nat) : Int := if a < b then -1 else if b < a then 1 else 0
theorem isNaN32 (a : Nat) (w : World) : Calls Tryz.prog 165 #[.int .u32 a] w fun e w' => e = .returned (.bool false) ∧ w = w' := by
  go_enter Tryz.func165, Tryz.ntmps165
  go_wp2
  go_ret
  exact ⟨by simp, rfl⟩
theorem compare32 (a b : Nat) (w : World) : Calls Tryz.prog 123 #[.int .u32 a, .int .u32 b] w fun e w' => e = .returned (.int .i64 (cn a b)) ∧ w = w' := by
  have HA := Lib.hid (isNaN32 a)
  have HB := Lib.hid (isNaN32 b)
  unfold cn
  by_cases h1 : a < b
  · have d1 : decide ((a : Int) < (b : Int)) = true := by simp; omega
    rw [if_pos h1]
    go_enter Tryz.func123, Tryz.ntmps123
    go_wp2_with fail
    refine (HA.out _).mono ?_
    rintro e w1 ⟨rfl, rfl⟩
    go_wp2_with fail
    refine (HB.out _).mono ?_
    rintro e w1 ⟨rfl, rfl⟩
    go_wp2
    go_ret
    exact ⟨rfl, rfl⟩
  · have d1 : decide ((a : Int) < (b : Int)) = false := by simp; omega
    rw [if_neg h1]
    by_cases h2 : b < a
    · have d2 : decide ((b : Int) < (a : Int)) = true := by simp; omega
      rw [if_pos h2]
      go_enter Tryz.func123, Tryz.ntmps123
      go_wp2_with fail
      refine (HA.out _).mono ?_
      rintro e w1 ⟨rfl, rfl⟩
      go_wp2_with fail
      refine (HB.out _).mono ?_
      rintro e w1 ⟨rfl, rfl⟩
      go_wp2
      go_ret
      exact ⟨rfl, rfl⟩
    · have d2 : decide ((b : Int) < (a : Int)) = false := by simp; omega
      rw [if_neg h2]
      go_enter Tryz.func123, Tryz.ntmps123
      go_wp2_with fail
      refine (HA.out _).mono ?_
      rintro e w1 ⟨rfl, rfl⟩
      go_wp2_with fail
      refine (HB.out _).mono ?_
      rintro e w1 ⟨rfl, rfl⟩
      go_wp2
      go_ret
      exact ⟨rfl, rfl⟩
theorem findCmp_at (x : Ck) (k : Nat) (c : Int) (hc : cn x.n k = c) (w : World) :
    Calls Tryz.prog 122 #[.agg #[.int .u32 x.n, .string x.k, .bool x.h, .string x.v], .int .u32 k] w fun e w' => e = .returned (.int .i64 c) ∧ Below w.heap.size w w' := by
  subst hc
  have HC := Lib.hid (fun w => compare32 x.n k w)
  have HG := Lib.hid (show Below w.heap.size w (w.alloc (.cells #[.int .u32 x.n, .string x.k, .bool x.h, .string x.v] 130)) from (Below.refl _ w).alloc (Nat.le_refl _) _)
  generalize cn x.n k = c at *
  go_enter Tryz.func122, Tryz.ntmps122
  go_wp2_with fail
  refine (HC.out _).mono ?_
  rintro e w1 ⟨rfl, rfl⟩
  go_wp2
  go_ret
  exact ⟨rfl, HG.out⟩
theorem cn_lt (a b : Nat) : cn a b < 0 ↔ a < b := by
  unfold cn
  split
  · simp [*]
  · split <;> simp [*]
theorem cn_eq (a b : Nat) : cn a b = 0 ↔ a = b := by
  unfold cn
  split
  · constructor
    · intro h; cases h
    · omega
  · split
    · constructor
      · intro h; cases h
      · omega
    · constructor
      · omega
      · intro _; rfl
def GI (D : List Ck) (k : Nat) (c : Nat) : Bool := match D[c]? with | some z => !decide (z.n < k) | none => false
theorem GI_at {D : List Ck} {k : Nat} {z : Ck} {c : Nat} (h : D[c]? = some z) : GI D k c = !decide (z.n < k) := by unfold GI; rw [h]
def At (D : List Ck) (k p : Nat) : Prop := p ≤ D.length ∧ (∀ j y, D[j]? = some y → j < p → y.n < k) ∧ (∀ j y, D[j]? = some y → p ≤ j → k ≤ y.n)
theorem up_lt {D : List Ck} (h : UpC D) {i j : Nat} {x y : Ck} (hx : D[i]? = some x) (hy : D[j]? = some y) (hij : i < j) : x.n < y.n := by
  obtain ⟨h1, rfl⟩ := List.getElem?_eq_some_iff.1 hx
  obtain ⟨h2, rfl⟩ := List.getElem?_eq_some_iff.1 hy
  exact List.pairwise_iff_getElem.1 h i j h1 h2 hij
theorem at_of {D : List Ck} {k p : Nat} (hs : UpC D) (h : Sc.Bs (GI D k) 0 D.length p p) : At D k p := by
  obtain ⟨_, _, h1, h2, h3⟩ := h
  refine ⟨h1, fun j y hy hj => ?_, fun j y hy hj => ?_⟩
  · rcases h2 with h2 | h2
    · omega
    · have hz : D[p - 1]? = some (D[p - 1]'(by omega)) := List.getElem?_eq_getElem _
      rw [GI_at hz] at h2
      have h2 : (D[p - 1]'(by omega)).n < k := by simpa using h2
      by_cases e : j = p - 1
      · subst e
        rw [hz] at hy
        rw [← Option.some.inj hy]; exact h2
      · exact Nat.lt_trans (up_lt hs hy hz (by omega)) h2
  · have hjl : j < D.length := (List.getElem?_eq_some_iff.1 hy).1
    rcases h3 with h3 | h3
    · omega
    · have hz : D[p]? = some (D[p]'(by omega)) := List.getElem?_eq_getElem _
      rw [GI_at hz] at h3
      have h3 : k ≤ (D[p]'(by omega)).n := by simpa using h3
      by_cases e : j = p
      · subst e
        rw [hz] at hy
        rw [← Option.some.inj hy]; exact h3
      · exact Nat.le_of_lt (Nat.lt_of_le_of_lt h3 (up_lt hs hz hy (by omega)))
def found (D : List Ck) (k p : Nat) : Bool := match D[p]? with | some y => decide (y.n = k) | none => false
theorem found_at {D : List Ck} {k p : Nat} {y : Ck} (h : D[p]? = some y) : found D k p = decide (y.n = k) := by unfold found; rw [h]
theorem found_out {D : List Ck} {k p : Nat} (h : D.length ≤ p) : found D k p = false := by unfold found; rw [List.getElem?_eq_none h]
set_option maxHeartbeats 2000000 in
theorem search_any (D : List Ck) (k : Nat) (A : Option Addr) (n cap B : Nat) (hn : n = D.length) (hm : n ≤ 281474976710656) (hs : UpC D) (w : World) (hB : B ≤ w.heap.size) (hD : Ls enC 4 w B A D) :
    Calls Tryz.prog 121 #[.slice A n cap, .int .u32 k, .func (.func 122) #[] #[]] w fun e w' => ∃ p : Nat, At D k p ∧ e = .returned (.tuple #[.int .i64 p, .bool (found D k p)]) ∧ Below w.heap.size w w' := by
  have HN := Lib.hid hn
  have HD := Lib.hid hD
  have HS := Lib.hid hs
  clear hn hD hs
  go_enter Tryz.func121, Tryz.ntmps121
  go_wp2_with fail
  go_loopw [9, 10] (fun v u wr => ∃ lo hi : Nat, v = .int .i64 lo ∧ u = .int .i64 hi ∧ Hid (Sc.Bs (GI D k) 0 n lo hi) ∧ Hid (Below w.heap.size w wr)) (fun v u _ => (intOf u).toNat - (intOf v).toNat)
  case atStart => exact ⟨0, n, by go_num, by go_num, Sc.Bs.start _ (Nat.zero_le _), Below.refl _ _⟩
  case round =>
    obtain ⟨lo, hi, rfl, rfl, hbs, hbel⟩ := hrel
    obtain ⟨_, n2, n3, _⟩ := Hid.out hbs
    have hL := HD.out.below ((Hid.out hbel).mono hB)
    by_cases hlt : lo < hi
    · obtain ⟨h, hh⟩ : ∃ h : Nat, ((lo : Int) + (hi : Int)) / 2 = (h : Int) := ⟨(lo + hi) / 2, by omega⟩
      have n4 : lo ≤ h := by omega
      have n5 : h < hi := by omega
      have n6 : (0 : Int) ≤ (h : Int) := by omega
      have n7 : (h : Int) < (n : Int) := by omega
      obtain ⟨z, hz⟩ : ∃ z, D[h]? = some z := ⟨_, List.getElem?_eq_getElem (by rw [← HN.out]; omega)⟩
      obtain ⟨b, o, hAe, hb, hr⟩ := hL h z hz
      have hbl : b < wr.heap.size := Nat.lt_of_lt_of_le hb (Nat.le_trans hB (Hid.out hbel).size)
      have hc0 : wr.cell? ⟨b, o + h * 4, none⟩ = some (.int .u32 z.n) := hr 0 _ rfl
      have hc1 : wr.cell? ⟨b, o + h * 4 + 1, none⟩ = some (.string z.k) := hr 1 _ rfl
      have hc2 : wr.cell? ⟨b, o + h * 4 + 2, none⟩ = some (.bool z.h) := hr 2 _ rfl
      have hc3 : wr.cell? ⟨b, o + h * 4 + 3, none⟩ = some (.string z.v) := hr 3 _ rfl
      clear hL hr
      subst hAe
      obtain ⟨c, hcf⟩ : ∃ c, cn z.n k = c := ⟨_, rfl⟩
      have hcl := cn_lt z.n k
      rw [hcf] at hcl
      have HCF := Lib.hid hcf
      by_cases hlk : z.n < k
      · have hc : c < 0 := hcl.2 hlk
        have HUP := Lib.hid ((Hid.out hbs).up n4 n5 (by rw [GI_at hz, decide_eq_true hlk]; rfl))
        clear hcl hcf hbs hz hlk
        go_wp2_with (go_at_call 122; refine (findCmp_at z k c HCF.out _).mono ?_; rintro e w1 ⟨rfl, hb1⟩; have HB1 := Lib.hid ((Hid.out hbel).trans (hb1.mono (Hid.out hbel).size)); clear hb1)
        exact ⟨⟨h + 1, hi, by go_num, rfl, HUP.out, HB1.out⟩, by simp [intOf] <;> omega⟩
      · have hc : 0 ≤ c := by
          have : ¬ c < 0 := fun e => hlk (hcl.1 e)
          omega
        have HDN := Lib.hid ((Hid.out hbs).down n4 n5 (by rw [GI_at hz, decide_eq_false hlk]; rfl))
        clear hcl hcf hbs hz hlk
        go_wp2_with (go_at_call 122; refine (findCmp_at z k c HCF.out _).mono ?_; rintro e w1 ⟨rfl, hb1⟩; have HB1 := Lib.hid ((Hid.out hbel).trans (hb1.mono (Hid.out hbel).size)); clear hb1)
        exact ⟨⟨lo, h, rfl, rfl, HDN.out, HB1.out⟩, by simp [intOf] <;> omega⟩
    · obtain rfl : lo = hi := by omega
      have HAT := Lib.hid (at_of HS.out (by have := Hid.out hbs; rw [HN.out] at this; exact this))
      clear hbs
      by_cases hp : lo < n
      · obtain ⟨z, hz⟩ : ∃ z, D[lo]? = some z := ⟨_, List.getElem?_eq_getElem (by rw [← HN.out]; omega)⟩
        obtain ⟨b, o, hAe, hb, hr⟩ := hL lo z hz
        have hbl : b < wr.heap.size := Nat.lt_of_lt_of_le hb (Nat.le_trans hB (Hid.out hbel).size)
        have hc0 : wr.cell? ⟨b, o + lo * 4, none⟩ = some (.int .u32 z.n) := hr 0 _ rfl
        have hc1 : wr.cell? ⟨b, o + lo * 4 + 1, none⟩ = some (.string z.k) := hr 1 _ rfl
        have hc2 : wr.cell? ⟨b, o + lo * 4 + 2, none⟩ = some (.bool z.h) := hr 2 _ rfl
        have hc3 : wr.cell? ⟨b, o + lo * 4 + 3, none⟩ = some (.string z.v) := hr 3 _ rfl
        clear hL hr
        subst hAe
        obtain ⟨c, hcf⟩ : ∃ c, cn z.n k = c := ⟨_, rfl⟩
        have hce := cn_eq z.n k
        rw [hcf] at hce
        have HF := Lib.hid (show found D k lo = (c == 0) by rw [found_at hz, Bool.eq_iff_iff]; simp [hce])
        have HCF := Lib.hid hcf
        clear hcf hce hz
        go_wp2_with (go_at_call 122; refine (findCmp_at z k c HCF.out _).mono ?_; rintro e w1 ⟨rfl, hb1⟩; have HB1 := Lib.hid ((Hid.out hbel).trans (hb1.mono (Hid.out hbel).size)); clear hb1)
        go_ret2
        exact ⟨lo, HAT.out, by rw [HF.out]; rfl, HB1.out⟩
      · have HF := Lib.hid (found_out (D := D) (k := k) (p := lo) (by rw [← HN.out]; omega))
        clear hL
        go_wp2
        go_ret2
        exact ⟨lo, HAT.out, by rw [HF.out]; rfl, Hid.out hbel⟩
/-- the chunk of a number -/
def fnd (D : List Ck) (I k : Nat) : Ck := (D.find? fun c => decide (c.n = k)).getD ⟨k, cky I k, false, ByteArray.empty⟩
theorem fnd_yes {D : List Ck} (hs : UpC D) {I k p : Nat} {c : Ck} (hc : D[p]? = some c) (hk : c.n = k) : fnd D I k = c := by
  unfold fnd
  have hm : c ∈ D := List.mem_of_getElem? hc
  cases hf : D.find? fun c => decide (c.n = k) with
  | none =>
    have := List.find?_eq_none.1 hf c hm
    simp [hk] at this
  | some d =>
    have h1 := List.find?_some hf
    simp only [decide_eq_true_iff] at h1
    obtain ⟨j, hj⟩ := List.mem_iff_getElem?.1 (List.mem_of_find?_eq_some hf)
    show d = c
    rcases Nat.lt_trichotomy j p with h | h | h
    · have := up_lt hs hj hc h; omega
    · subst h; rw [hj] at hc; exact Option.some.inj hc
    · have := up_lt hs hc hj h; omega
theorem fnd_no {D : List Ck} {I k : Nat} (h : ∀ c ∈ D, c.n ≠ k) : fnd D I k = ⟨k, cky I k, false, ByteArray.empty⟩ := by
  unfold fnd
  rw [List.find?_eq_none.2 (fun c hc => by simp [h c hc])]
  rfl
theorem fnd_at {D : List Ck} (hs : UpC D) {I k p : Nat} (ha : At D k p) (hf : found D k p = false) : fnd D I k = ⟨k, cky I k, false, ByteArray.empty⟩ := by
  refine fnd_no fun c hc e => ?_
  obtain ⟨j, hj⟩ := List.mem_iff_getElem?.1 hc
  rcases Nat.lt_trichotomy j p with h | h | h
  · have := ha.2.1 j c hj h; omega
  · subst h
    rw [found_at hj] at hf
    simp [e] at hf
  · have hpl : p < D.length := by have := (List.getElem?_eq_some_iff.1 hj).1; omega
    have hz : D[p]? = some (D[p]'hpl) := List.getElem?_eq_getElem _
    have h1 := up_lt hs hz hj h
    have h2 := ha.2.2 p _ hz (Nat.le_refl _)
    omega
set_option maxHeartbeats 4000000 in
theorem find_any (D : List Ck) (I k : Nat) (hI1 : 1 ≤ I) (hI : I < 4294967296) (hk : k < 512) (A : Option Addr) (n cap B : Nat) (hn : n = D.length) (hm : n ≤ 281474976710656) (hs : UpC D) (w : World) (hB : B ≤ w.heap.size) (hD : Ls enC 4 w B A D) :
    Calls Tryz.prog 72 #[.slice A n cap, .int .u32 I, .int .u32 k] w fun e w' => e = .returned (.agg (enC (fnd D I k)).toArray) ∧ Below w.heap.size w w' := by
  have HR0 := Lib.hid (heap_alloc_new w (.cells #[.int .u32 0, .string ⟨#[]⟩, .bool false, .string ⟨#[]⟩] 130))
  have HB0 := Lib.hid (show Below w.heap.size w (w.alloc (.cells #[.int .u32 0, .string ⟨#[]⟩, .bool false, .string ⟨#[]⟩] 130)) from (Below.refl _ w).alloc (Nat.le_refl _) _)
  have HS := Lib.hid (fun (w1 : World) (hb : Below w.heap.size w w1) => search_any D k A n cap B hn hm hs w1 (Nat.le_trans hB hb.size) (hD.below (hb.mono hB)))
  have HD := Lib.hid hD
  have HN := Lib.hid hn
  have HUP := Lib.hid hs
  have hlim := kyC_lim hI hk
  have hok := kyC_ok hI1 hk
  have HK := Lib.hid (fun w => by
    have h := key_in (kyC I k) hlim w
    rw [show enK (kyC I k) = cky I k by unfold enK; rw [if_pos hok]; rfl, show chK (kyC I k) = 0 by unfold chK; rw [if_pos hok]] at h
    exact h)
  clear hn hs hD hlim hok
  go_enter Tryz.func72, Tryz.ntmps72
  go_wp2_with fail
  generalize w.alloc _ = w1 at *
  refine (HS.out _ HB0.out).mono ?_
  rintro e w2 ⟨p, hat, rfl, hb⟩
  have HR2 := Lib.hid ((hb.block _ (row_lt HR0.out)).trans HR0.out)
  have HB2 := Lib.hid (HB0.out.trans (hb.mono HB0.out.size))
  have HAT := Lib.hid hat
  have hpn : p ≤ n := by rw [HN.out]; exact hat.1
  clear hb hat HS HR0 HB0
  cases hf : found D k p
  · have HF := Lib.hid (fnd_at (I := I) HUP.out HAT.out hf)
    have HF2 := Lib.hid (show (enC (fnd D I k)).toArray = #[.int .u32 k, .string (cky I k), .bool false, .string ⟨#[]⟩] by rw [HF.out]; rfl)
    clear hf HF
    go_wp2_with fail
    refine (HK.out _).mono ?_
    rintro e w3 ⟨rfl, hb⟩
    have HR3 := Lib.hid ((hb.block _ (row_lt HR2.out)).trans HR2.out)
    have HB3 := Lib.hid (HB2.out.trans (hb.mono HB2.out.size))
    clear hb
    generalize cky I k = K at *
    have HR4 := Lib.hid (setRow_heap' (cs := #[.int .u32 k, .string K, .bool false, .string ⟨#[]⟩]) HR3.out)
    have HB4 := Lib.hid (grown_row HB3.out (Nat.le_refl _) #[.int .u32 k, .string K, .bool false, .string ⟨#[]⟩])
    go_wp2_with (refine wpList_store_row rfl 130 (.tmp 6) (.tmp 31) rfl w.heap.size #[.int .u32 k, .string K, .bool false, .string ⟨#[]⟩] rfl rfl 130 _ HR3.out (by kernel_rfl) rfl (by simp [Value.oneCell']) ?_)
    refine bodyPost_ret (v := .agg #[.int .u32 k, .string K, .bool false, .string ⟨#[]⟩]) (results_cell_row rfl _ _ w.heap.size 130 #[.int .u32 k, .string K, .bool false, .string ⟨#[]⟩] (0, 0) _ rfl HR4.out Tryz.underlying130 rfl (by kernel_rfl)) rfl ?_
    exact ⟨by rw [HF2.out], HB4.out⟩
  · have hpl : p < n := by
      rcases Nat.lt_or_ge p n with h | h
      · exact h
      · rw [found_out (by rw [← HN.out]; exact h)] at hf; cases hf
    obtain ⟨z, hz⟩ : ∃ z, D[p]? = some z := ⟨_, List.getElem?_eq_getElem (by rw [← HN.out]; exact hpl)⟩
    rw [found_at hz, decide_eq_true_iff] at hf
    have HF := Lib.hid (fnd_yes (I := I) HUP.out hz hf)
    obtain ⟨b, o, hAe, hb, hr⟩ := (HD.out.below (HB2.out.mono hB)) p z hz
    have hbl : b < w2.heap.size := Nat.lt_of_lt_of_le hb (Nat.le_trans hB HB2.out.size)
    have hc0 : w2.cell? ⟨b, o + p * 4, none⟩ = some (.int .u32 z.n) := hr 0 _ rfl
    have hc1 : w2.cell? ⟨b, o + p * 4 + 1, none⟩ = some (.string z.k) := hr 1 _ rfl
    have hc2 : w2.cell? ⟨b, o + p * 4 + 2, none⟩ = some (.bool z.h) := hr 2 _ rfl
    have hc3 : w2.cell? ⟨b, o + p * 4 + 3, none⟩ = some (.string z.v) := hr 3 _ rfl
    have HR4 := Lib.hid (setRow_heap' (cs := (enC z).toArray) HR2.out)
    have HB4 := Lib.hid (grown_row HB2.out (Nat.le_refl _) (enC z).toArray)
    clear hr hz hf
    subst hAe
    go_wp2_with (refine wpList_store_row rfl 130 (.tmp 6) (.tmp 21) rfl w.heap.size (enC z).toArray rfl rfl 130 _ HR2.out (infoC4 z) rfl (by simp [enC, Value.oneCell']) ?_)
    refine bodyPost_ret (v := .agg (enC z).toArray) (results_cell_row rfl _ _ w.heap.size 130 (enC z).toArray (0, 0) _ rfl HR4.out Tryz.underlying130 rfl (infoC4 z)) rfl ?_
    exact ⟨by rw [HF.out], HB4.out⟩
end Go.Proofs.YtjkmfonngbendaaGreatDoor.Da
/- Contract of package data's read: the bytes from one place on, ahead of another one. -/
namespace Go.Proofs.YtjkmfonngbendaaGreatDoor.Da
set_option linter.unusedVariables false
set_option linter.unusedSimpArgs false
set_option maxRecDepth 100000
open Go.ChangeShapes Go.WideShapes Go.ChangeAt Go.RowKit
open Ar Rg
open Pk (u8s u8s_length)
open It (Itm Ch)
theorem row_runD {P : Program} {ev : Operand → Value} {o : Oper} {w : World} (ty : TypeId) {x : Operand} (ho : o.op = .load ty x) (b : Nat) (hx : ev x = .pointer (some ⟨b, 0, none⟩)) (cs : Array Value) (t : TypeId) (fr : Nat × Nat) (d : TypeDesc) (hg : w.heap[b]? = some (.cells cs t fr))
    (hu : P.underlying ty = some d) (hd : (match d with | .struct _ | .array _ _ => true | _ => false) = true) (hi : (P.info? ty).map (·.size) = some cs.size) : (execOp ev o).run P w = .ok (.value (.agg cs)) w := by
  unfold execOp
  simp only [ho, hx, Instr.loadAt, Instr.sureAddr, Sem.run_bind, Sem.run_pure, Result.andThen_ok, run_loadVar_row w b t ty cs fr d hg hu hd hi]
/-- the byte at a place, of chunks -/
def btC (cs : List Ck) (p : Nat) : UInt8 := match cs.find? fun c => decide (c.n = p / 128) with
  | some c => ((btsB c).data.toList[p % 128]?).getD 0
  | none => 0
def rdC (cs : List Ck) (a e : Nat) : List UInt8 := (List.range (e - a)).map fun j => btC cs (a + j)
theorem rdC_len (cs : List Ck) (a e : Nat) : (rdC cs a e).length = e - a := by unfold rdC; rw [List.length_map, List.length_range]
theorem rdC_get (cs : List Ck) (a e j : Nat) (h : j < e - a) : (rdC cs a e)[j]? = some (btC cs (a + j)) := by
  unfold rdC
  rw [List.getElem?_map, List.getElem?_range h]
  rfl
theorem rdC_nil (a e : Nat) : rdC [] a e = List.replicate (e - a) 0 := by
  apply List.ext_getElem?
  intro j
  by_cases hj : j < e - a
  · rw [rdC_get _ _ _ _ hj, List.getElem?_replicate, if_pos hj]; rfl
  · rw [List.getElem?_eq_none (by rw [rdC_len]; omega), List.getElem?_replicate, if_neg hj]
theorem rdC_ext {cs ds : List Ck} {a e : Nat} (h : ∀ p, a ≤ p → p < e → btC cs p = btC ds p) : rdC cs a e = rdC ds a e := by
  apply List.ext_getElem?
  intro j
  by_cases hj : j < e - a
  · rw [rdC_get _ _ _ _ hj, rdC_get _ _ _ _ hj, h (a + j) (by omega) (by omega)]
  · rw [List.getElem?_eq_none (by rw [rdC_len]; omega), List.getElem?_eq_none (by rw [rdC_len]; omega)]
theorem up_take {cs : List Ck} (hs : UpC cs) {i : Nat} {c d : Ck} (hc : cs[i]? = some c) (hd : d ∈ cs.take i) : d.n < c.n := by
  obtain ⟨j, hj⟩ := List.mem_iff_getElem?.1 hd
  rw [List.getElem?_take] at hj
  split at hj
  · rename_i h; exact up_lt hs hj hc h
  · cases hj
theorem btC_snoc {cs : List Ck} (hs : UpC cs) {i : Nat} {c : Ck} (hc : cs[i]? = some c) (p : Nat) : btC (cs.take (i + 1)) p = if c.n = p / 128 then ((btsB c).data.toList[p % 128]?).getD 0 else btC (cs.take i) p := by
  unfold btC
  rw [List.take_add_one, hc, List.find?_append]
  by_cases h : c.n = p / 128
  · rw [if_pos h]
    have hn : (cs.take i).find? (fun c => decide (c.n = p / 128)) = none := by
      rw [List.find?_eq_none]
      intro d hd
      have := up_take hs hc hd
      simp; omega
    rw [hn]
    simp [h]
  · rw [if_neg h]
    have h2 : (some c).toList.find? (fun c => decide (c.n = p / 128)) = none := by simp [h]
    rw [h2, Option.or_none]
theorem btC_old {cs : List Ck} (hs : UpC cs) {i : Nat} {c : Ck} (hc : cs[i]? = some c) {p : Nat} (h : c.n = p / 128) : btC (cs.take i) p = 0 := by
  unfold btC
  have hn : (cs.take i).find? (fun c => decide (c.n = p / 128)) = none := by
    rw [List.find?_eq_none]
    intro d hd
    have := up_take hs hc hd
    simp; omega
  rw [hn]
theorem bts_le (c : Ck) : (btsB c).data.toList.length ≤ 128 := by rw [btsB_list, List.length_take]; omega
theorem cpy_get {L S : List UInt8} {o n : Nat} (h : o + n ≤ L.length) (j : Nat) : (cpy L o n S)[j]? = if o ≤ j ∧ j < o + min S.length n then S[j - o]? else L[j]? := by
  unfold cpy
  have l1 : (L.take o).length = o := by rw [List.length_take]; omega
  have l2 : (S.take n).length = min S.length n := by rw [List.length_take]; omega
  by_cases h1 : j < o
  · rw [if_neg (by omega), List.append_assoc, List.getElem?_append_left (by omega), List.getElem?_take, if_pos h1]
  · by_cases h2 : j < o + min S.length n
    · rw [if_pos ⟨by omega, h2⟩, List.append_assoc, List.getElem?_append_right (by omega), l1, List.getElem?_append_left (by omega), List.getElem?_take, if_pos (by omega)]
    · rw [if_neg (by omega), List.getElem?_append_right (by rw [List.length_append]; omega), List.length_append, l1, l2, List.getElem?_drop]
      congr 1
      omega
/-- a chunk that has nothing there -/
theorem rd_skip {cs : List Ck} (hs : UpC cs) {i a e : Nat} {c : Ck} (hc : cs[i]? = some c) (h : (btsB c).size ≤ a - c.n * 128) : rdC (cs.take (i + 1)) a e = rdC (cs.take i) a e := by
  have hl : (btsB c).data.toList.length = (btsB c).size := by rw [Array.length_toList]; rfl
  refine rdC_ext fun p hp _ => ?_
  rw [btC_snoc hs hc]
  by_cases hn : c.n = p / 128
  · rw [if_pos hn, btC_old hs hc hn, List.getElem?_eq_none (by rw [hl]; omega)]
    rfl
  · rw [if_neg hn]
/-- no chunk from here on has anything there -/
theorem rd_stop {cs : List Ck} (hs : UpC cs) {i a e : Nat} {c : Ck} (hc : cs[i]? = some c) (h : e ≤ c.n * 128) : rdC (cs.take i) a e = rdC cs a e := by
  refine rdC_ext fun p hp hpe => ?_
  unfold btC
  have e1 : cs.find? (fun c => decide (c.n = p / 128)) = (cs.take i).find? (fun c => decide (c.n = p / 128)) := by
    conv => lhs; rw [← List.take_append_drop i cs]
    rw [List.find?_append]
    have hn : (cs.drop i).find? (fun c => decide (c.n = p / 128)) = none := by
      rw [List.find?_eq_none]
      intro d hd
      obtain ⟨j, hj⟩ := List.mem_iff_getElem?.1 hd
      rw [List.getElem?_drop] at hj
      have h2 : c.n ≤ d.n := by
        rcases Nat.eq_zero_or_pos j with rfl | h0
        · rw [Nat.add_zero, hc] at hj
          cases hj
          exact Nat.le_refl _
        · exact Nat.le_of_lt (up_lt hs hc hj (by omega))
      have : c.n * 128 ≤ d.n * 128 := Nat.mul_le_mul_right _ h2
      simp; omega
    rw [hn, Option.or_none]
  rw [e1]
/-- a chunk's bytes laid at their place -/
theorem rd_step {cs : List Ck} (hs : UpC cs) {i a e f k q : Nat} {c : Ck} (hc : cs[i]? = some c) (hf : c.n * 128 = f) (hfe : f < e) (hae : a < e) (hk : a - f = k) (hkl : k < (btsB c).size) (hq : f + k - a = q) :
    cpy (rdC (cs.take i) a e) q (e - a - q) ((btsB c).data.toList.drop k) = rdC (cs.take (i + 1)) a e := by
  have hl : (btsB c).data.toList.length = (btsB c).size := by rw [Array.length_toList]; rfl
  have h128 := bts_le c
  apply List.ext_getElem?
  intro j
  rw [cpy_get (by rw [rdC_len]; omega)]
  by_cases hj : j < e - a
  · rw [rdC_get _ _ _ _ hj, rdC_get _ _ _ _ hj, btC_snoc hs hc]
    have e1 : (a + j) / 128 * 128 + (a + j) % 128 = a + j := by omega
    by_cases hin : q ≤ j ∧ j < q + min ((btsB c).data.toList.drop k).length (e - a - q)
    · rw [if_pos hin]
      obtain ⟨hi1, hi2⟩ := hin
      rw [List.length_drop] at hi2
      have hn : c.n = (a + j) / 128 := by omega
      rw [if_pos hn, List.getElem?_drop, show k + (j - q) = (a + j) % 128 by omega, List.getElem?_eq_getElem (by omega)]
      rfl
    · rw [if_neg hin]
      rw [List.length_drop] at hin
      by_cases hn : c.n = (a + j) / 128
      · rw [if_pos hn, btC_old hs hc hn, List.getElem?_eq_none (by omega)]
        rfl
      · rw [if_neg hn]
  · have e2 : (rdC (cs.take i) a e)[j]? = none := List.getElem?_eq_none (by rw [rdC_len]; omega)
    rw [if_neg (by omega), e2, List.getElem?_eq_none (by rw [rdC_len]; omega)]
theorem from_at (c : Ck) (f : Nat) (hf : c.n * 128 = f) (h : c.n < 4294967296) (w : World) :
    Calls Tryz.prog 89 #[.agg (enC c).toArray] w fun e w' => e = .returned (.int .i64 (f : Int)) ∧ Below w.heap.size w w' := by
  subst hf
  exact from_any c h w
set_option maxHeartbeats 8000000 in
theorem read_any (D : List Ck) (a e : Nat) (hae : a < e) (he : e ≤ 65536) (A : Option Addr) (n cap B : Nat) (hn : n = D.length) (hm : n ≤ 281474976710656) (hs : UpC D) (hz : ∀ c ∈ D, c.n < 512 ∧ c.v.size ≤ 160) (w : World) (hB : B ≤ w.heap.size) (hD : Ls enC 4 w B A D) :
    Calls Tryz.prog 47 #[.slice A n cap, .int .i64 a, .int .i64 e] w fun e' w' => e' = .returned (.string ⟨(rdC D a e).toArray⟩) ∧ Below w.heap.size w w' := by
  obtain ⟨m, hmm⟩ : ∃ m, e - a = m := ⟨_, rfl⟩
  have e1 : (e : Int) - (a : Int) = (m : Int) := by omega
  have hm9 : m ≤ 65536 := by omega
  have hmk := zeros_make m (by omega) w
  have HR0 := Lib.hid (heap_alloc_new w (.cells (u8s (List.replicate m 0)).toArray 5))
  have HB0 := Lib.hid (show Below w.heap.size w (w.alloc (.cells (u8s (List.replicate m 0)).toArray 5)) from (Below.refl _ _).alloc (Nat.le_refl _) _)
  have HM := Lib.hid hmm
  have HN := Lib.hid hn
  have HD := Lib.hid hD
  have HS := Lib.hid hs
  have HZ := Lib.hid hz
  have HRL := Lib.hid (rdC_len D a e)
  clear hn hD hs hz hmm
  generalize w.alloc _ = w1 at *
  go_enter Tryz.func47, Tryz.ntmps47
  go_wp2_with fail
  go_step3
  go_wp2_with fail
  go_step3
  go_wp2_with fail
  go_loopw [18] (fun iv wr => ∃ i : Nat, i ≤ n ∧ iv = .int .i64 i ∧ Hid (wr.heap[w.heap.size]? = some (.cells (u8s (rdC (D.take i) a e)).toArray 5 (0, 0))) ∧ Hid (Below w.heap.size w wr)) (fun iv _ => n - (intOf iv).toNat)
  case atStart => exact ⟨0, Nat.zero_le _, by go_num, (show w1.heap[w.heap.size]? = some (.cells (u8s (rdC (D.take 0) a e)).toArray 5 (0, 0)) by rw [List.take_zero, rdC_nil, HM.out]; exact HR0.out), HB0.out⟩
  case round =>
    obtain ⟨i, hi, rfl, hrow, hbel⟩ := hrel
    by_cases hlt : i < n
    · obtain ⟨c, hc⟩ : ∃ c, D[i]? = some c := ⟨_, List.getElem?_eq_getElem (by rw [← HN.out]; exact hlt)⟩
      obtain ⟨hc512, hv160⟩ := HZ.out c (List.mem_of_getElem? hc)
      obtain ⟨b, o, hAe, hb, hr⟩ := (HD.out.below ((Hid.out hbel).mono hB)) i c hc
      have hbl : b < wr.heap.size := Nat.lt_of_lt_of_le hb (Nat.le_trans hB (Hid.out hbel).size)
      have hc0 : wr.cell? ⟨b, o + i * 4, none⟩ = some (.int .u32 c.n) := hr 0 _ rfl
      have hc1 : wr.cell? ⟨b, o + i * 4 + 1, none⟩ = some (.string c.k) := hr 1 _ rfl
      have hc2 : wr.cell? ⟨b, o + i * 4 + 2, none⟩ = some (.bool c.h) := hr 2 _ rfl
      have hc3 : wr.cell? ⟨b, o + i * 4 + 3, none⟩ = some (.string c.v) := hr 3 _ rfl
      have HC := Lib.hid hc
      have HV := Lib.hid (show c.v.size ≤ maxLen by unfold maxLen; omega)
      obtain ⟨f, hf⟩ : ∃ f, c.n * 128 = f := ⟨_, rfl⟩
      obtain ⟨k, hk⟩ : ∃ k, a - f = k := ⟨_, rfl⟩
      have hf9 : f < 65536 := by omega
      have hkm : max ((a : Int) - (f : Int)) 0 = (k : Int) := by omega
      have hk9 : k ≤ a := by omega
      have HF := Lib.hid hf
      have HK := Lib.hid hk
      have hbz := btsB_size c
      have hbz9 : (btsB c).size ≤ 128 := by omega
      have HFR := Lib.hid (fun w => from_at c f hf (by omega) w)
      have HBY := Lib.hid (fun w => bytes_any c HV.out w)
      have hal : Below wr.heap.size wr (wr.alloc (.cells (enC c).toArray 130)) := (Below.refl _ _).alloc (Nat.le_refl _) _
      have HQ1 := Lib.hid (heap_alloc_new wr (.cells (enC c).toArray 130))
      have HR1 := Lib.hid ((hal.block _ (row_lt (Hid.out hrow))).trans (Hid.out hrow))
      have HB1 := Lib.hid ((Hid.out hbel).trans (hal.mono (Hid.out hbel).size))
      have HG1 := Lib.hid (show w.heap.size < wr.heap.size from row_lt (Hid.out hrow))
      clear hr hc hal hrow hbel hf hk hbz hv160
      obtain ⟨bb, hbb⟩ : ∃ bb, btsB c = bb := ⟨_, rfl⟩
      rw [hbb] at HBY hbz9
      have HBB := Lib.hid hbb
      clear hbb
      subst hAe
      go_wp2_with (refine wpList_load_row rfl 130 (.tmp 9) rfl wr.heap.size rfl 130 (enC c).toArray (0, 0) _ HQ1.out Tryz.underlying130 rfl (infoC4 c) ?_)
      clear hc0 hc1 hc2 hc3
      change Calls _ _ _ (wr.alloc (.cells (enC c).toArray 130)) _
      generalize wr.alloc _ = w2 at *
      generalize wr.heap.size = g at *
      refine (HBY.out _).mono ?_
      rintro e' w3 ⟨rfl, hb3⟩
      have HQ3 := Lib.hid ((hb3.block _ (row_lt HQ1.out)).trans HQ1.out)
      have HR3 := Lib.hid ((hb3.block _ (row_lt HR1.out)).trans HR1.out)
      have HB3 := Lib.hid (HB1.out.trans (hb3.mono HB1.out.size))
      clear hb3 HQ1 HR1 HB1 HBY
      go_wp2_with (refine wpList_load_row rfl 130 (.tmp 9) rfl g rfl 130 (enC c).toArray (0, 0) _ HQ3.out Tryz.underlying130 rfl (infoC4 c) ?_)
      refine (HFR.out _).mono ?_
      rintro e' w4 ⟨rfl, hb4⟩
      have HQ4 := Lib.hid ((hb4.block _ (row_lt HQ3.out)).trans HQ3.out)
      have HR4 := Lib.hid ((hb4.block _ (row_lt HR3.out)).trans HR3.out)
      have HB4 := Lib.hid (HB3.out.trans (hb4.mono HB3.out.size))
      clear hb4 HQ3 HR3 HB3
      go_wp2_with (refine wpList_load_row rfl 130 (.tmp 9) rfl g rfl 130 (enC c).toArray (0, 0) _ HQ4.out Tryz.underlying130 rfl (infoC4 c) ?_)
      refine (HFR.out _).mono ?_
      rintro e' w5 ⟨rfl, hb5⟩
      have HQ5 := Lib.hid ((hb5.block _ (row_lt HQ4.out)).trans HQ4.out)
      have HR5 := Lib.hid ((hb5.block _ (row_lt HR4.out)).trans HR4.out)
      have HB5 := Lib.hid (HB4.out.trans (hb5.mono HB4.out.size))
      clear hb5 HQ4 HR4 HB4
      by_cases hfe : e ≤ f
      · have d1 : decide (e ≤ f) = true := decide_eq_true hfe
        have HX := Lib.hid (show (rdC (D.take i) a e) = rdC D a e from rd_stop HS.out HC.out (by rw [HF.out]; exact hfe))
        have HR := Lib.hid HR5.out
        rw [HX.out] at HR
        have hcv := conv_row (rdC D a e) m w.heap.size (by rw [HRL.out, HM.out]) w5 HR.out
        generalize hR : rdC D a e = R at *
        have HRR := Lib.hid hR
        clear hR hfe
        go_wp2_with fail
        rw [Exit.noGoto_ret]
        go_ret
        exact ⟨by rw [HRR.out]; rfl, HB5.out⟩
      · have d1 : decide (e ≤ f) = false := decide_eq_false hfe
        by_cases hsk : bb.size ≤ k
        · have d2 : decide (bb.size ≤ k) = true := decide_eq_true hsk
          have HX := Lib.hid (show rdC (D.take (i + 1)) a e = rdC (D.take i) a e from rd_skip HS.out HC.out (by rw [HBB.out, HF.out, HK.out]; exact hsk))
          clear hsk hfe
          go_wp2_with fail
          exact ⟨⟨i + 1, by omega, by go_num, (by rw [HX.out]; exact HR5.out), HB5.out⟩, by simp [intOf] <;> omega⟩
        · have d2 : decide (bb.size ≤ k) = false := decide_eq_false hsk
          obtain ⟨q, hq⟩ : ∃ q, f + k - a = q := ⟨_, rfl⟩
          have HX := Lib.hid (show cpy (rdC (D.take i) a e) q (e - a - q) ((btsB c).data.toList.drop k) = rdC (D.take (i + 1)) a e from rd_step HS.out HC.out HF.out (by omega) hae HK.out (by rw [HBB.out]; omega) hq)
          have hkf : a ≤ f + k := by have := HK.out; omega
          have hqm : q < m := by have := HM.out; have := HK.out; omega
          obtain ⟨j, hj⟩ : ∃ j, f + k = j := ⟨_, rfl⟩
          have e7 : (f : Int) + (k : Int) = (j : Int) := by omega
          have e3 : (j : Int) - (a : Int) = (q : Int) := by omega
          have hj9 : j ≤ 200000 := by omega
          have e4 : (q : Int) ≤ (m : Int) := by omega
          have e5 : ¬ m = q := by omega
          have e6 : (k : Int) ≤ (bb.size : Int) := by omega
          have HQM := Lib.hid (show q + (m - q) ≤ (rdC (D.take i) a e).length by rw [rdC_len]; have := HM.out; omega)
          have HXB := Lib.hid (show (bb.extract k bb.size).data.toList = (btsB c).data.toList.drop k by
            rw [HBB.out, ByteArray.data_extract, Array.toList_extract, List.extract_eq_take_drop, List.take_of_length_le]
            rw [List.length_drop, Array.length_toList]
            exact Nat.le_refl _)
          obtain ⟨X, hX⟩ : ∃ X, bb.extract k bb.size = X := ⟨_, rfl⟩
          rw [hX] at HXB
          clear hq hsk hfe hkf hj
          have hw1 : IntKind.i64.wrap (j : Int) = (j : Int) := IntWalk.i64_in _ ⟨by omega, by omega⟩
          have hw2 : IntKind.i64.wrap (q : Int) = (q : Int) := IntWalk.i64_in _ ⟨by omega, by omega⟩
          go_wp2_with fail
          refine wp_region_T (fun w' : World => w'.heap[g]? = some (.cells (enC c).toArray 130 (0, 0))) 11 (by kernel_rfl) (by kernel_rfl) ?_
          have hS : w5.drew.heap[g]? = some (.cells (enC c).toArray 130 (0, 0)) := HQ5.out
          refine take_T 0 39 (.slice (some ⟨w.heap.size, 0, none⟩) m m) rfl (by rfl) (by kernel_rfl) (by decide) (by kernel_rfl) (by kernel_rfl) (by kernel_rfl) (fun _ _ _ h => h) (Or.inl ⟨by rfl, fun w' hSw => by go_simp⟩) hS ?_
          simp only [List.setIfInBounds_toArray, List.set_cons_zero, List.set_cons_succ]
          refine take_T 1 40 (.agg (enC c).toArray) rfl (by rfl) (by kernel_rfl) (by decide) (by kernel_rfl) (by kernel_rfl) (by kernel_rfl) (fun _ _ _ h => h) (Or.inl ⟨by rfl, fun w' hSw => by exact row_runD 130 rfl g rfl _ _ (0, 0) _ hSw Tryz.underlying130 rfl (infoC4 c)⟩) hS ?_
          simp only [List.setIfInBounds_toArray, List.set_cons_zero, List.set_cons_succ]
          refine take_T 3 42 (.int .i64 k) rfl (by rfl) (by kernel_rfl) (by decide) (by kernel_rfl) (by kernel_rfl) (by kernel_rfl) (fun _ _ _ h => h) (Or.inl ⟨by rfl, fun w' hSw => by go_simp⟩) hS ?_
          simp only [List.setIfInBounds_toArray, List.set_cons_zero, List.set_cons_succ]
          refine take_T 5 44 (.int .i64 a) rfl (by rfl) (by kernel_rfl) (by decide) (by kernel_rfl) (by kernel_rfl) (by kernel_rfl) (fun _ _ _ h => h) (Or.inl ⟨by rfl, fun w' hSw => by go_simp⟩) hS ?_
          simp only [List.setIfInBounds_toArray, List.set_cons_zero, List.set_cons_succ]
          refine take_T 8 47 (.string bb) rfl (by rfl) (by kernel_rfl) (by decide) (by kernel_rfl) (by kernel_rfl) (by kernel_rfl) (fun _ _ _ h => h) (Or.inl ⟨by rfl, fun w' hSw => by go_simp⟩) hS ?_
          simp only [List.setIfInBounds_toArray, List.set_cons_zero, List.set_cons_succ]
          refine take_T 9 48 (.int .i64 k) rfl (by rfl) (by kernel_rfl) (by decide) (by kernel_rfl) (by kernel_rfl) (by kernel_rfl) (fun _ _ _ h => h) (Or.inl ⟨by rfl, fun w' hSw => by go_simp⟩) hS ?_
          simp only [List.setIfInBounds_toArray, List.set_cons_zero, List.set_cons_succ]
          refine take_T 10 49 (.string (X)) rfl (by rfl) (by kernel_rfl) (by decide) (by kernel_rfl) (by kernel_rfl) (by kernel_rfl) (fun _ _ _ h => h) (Or.inl ⟨by rfl, fun w' hSw => by go_simp⟩) hS ?_
          simp only [List.setIfInBounds_toArray, List.set_cons_zero, List.set_cons_succ]
          refine only_T 2 rfl (by kernel_rfl) (by decide) (by rfl) (fun K hK => ?_)
          go_wp2_with fail
          refine (HFR.out _).mono ?_
          rintro e' w6 ⟨rfl, hb6⟩
          have hb6' : Below w5.heap.size w5 w6 := (Below.refl _ _).drew.trans hb6
          have HR6 := Lib.hid ((hb6'.block _ (row_lt HR5.out)).trans HR5.out)
          have HB6 := Lib.hid (HB5.out.trans (hb6'.mono HB5.out.size))
          have hS2 : w6.heap[g]? = some (.cells (enC c).toArray 130 (0, 0)) := (hb6'.block _ (row_lt HQ5.out)).trans HQ5.out
          clear hb6 hb6'
          refine hK.out _ _ hS2 ?_
          clear hK K
          try simp only [Act.put, List.setIfInBounds_toArray, List.set_cons_zero, List.set_cons_succ]
          clear hS
          have hS := hS2
          clear hS2
          refine take_T 4 43 (.int .i64 (j : Int)) rfl (by rfl) (by kernel_rfl) (by decide) (by kernel_rfl) (by kernel_rfl) (by kernel_rfl) (fun _ _ _ h => h) (Or.inl ⟨by rfl, fun w' hSw => by go_simp⟩) hS ?_
          simp only [List.setIfInBounds_toArray, List.set_cons_zero, List.set_cons_succ]
          refine take_T 6 45 (.int .i64 (q : Int)) rfl (by rfl) (by kernel_rfl) (by decide) (by kernel_rfl) (by kernel_rfl) (by kernel_rfl) (fun _ _ _ h => h) (Or.inl ⟨by rfl, fun w' hSw => by go_simp⟩) hS ?_
          simp only [List.setIfInBounds_toArray, List.set_cons_zero, List.set_cons_succ]
          refine take_T 7 46 (.slice (some ⟨w.heap.size, q, none⟩) (m - q) (m - q)) rfl (by rfl) (by kernel_rfl) (by decide) (by kernel_rfl) (by kernel_rfl) (by kernel_rfl) (fun _ _ _ h => h) (Or.inl ⟨by rfl, fun w' hSw => by go_simp⟩) hS ?_
          simp only [List.setIfInBounds_toArray, List.set_cons_zero, List.set_cons_succ]
          refine done_T (by kernel_rfl) ?_
          simp only [List.drop_succ_cons, List.drop_zero]
          clear hw1 hw2
          have HR7 := Lib.hid (setRow_heap' (cs := (u8s (cpy (rdC (D.take i) a e) q (m - q) (X).data.toList)).toArray) HR6.out)
          have HB7 := Lib.hid (grown_row HB6.out (Nat.le_refl _) (u8s (cpy (rdC (D.take i) a e) q (m - q) (X).data.toList)).toArray)
          have HX7 := Lib.hid (show cpy (rdC (D.take i) a e) q (m - q) (X).data.toList = rdC (D.take (i + 1)) a e by rw [HXB.out, ← HM.out]; exact HX.out)
          go_wp2_with (refine wpList_copy_u8 rfl (.tmp 46) (.tmp 49) 60 9 rfl 5 Tryz.underlying60 info8 w.heap.size q (m - q) (m - q) rfl (X) rfl (rdC (D.take i) a e) 5 HR6.out HQM.out ?_; intro v)
          exact ⟨⟨i + 1, by omega, by go_num, (by rw [← HX7.out]; exact HR7.out), HB7.out⟩, by simp [intOf] <;> omega⟩
    · have HX := Lib.hid (show (rdC (D.take i) a e) = rdC D a e by rw [List.take_of_length_le (by rw [← HN.out]; omega)])
      have HR := Lib.hid (Hid.out hrow)
      rw [HX.out] at HR
      have hcv := conv_row (rdC D a e) m w.heap.size (by rw [HRL.out, HM.out]) wr HR.out
      have HB := Lib.hid (Hid.out hbel)
      clear hrow hbel
      generalize hR : rdC D a e = R at *
      have HRR := Lib.hid hR
      clear hR
      go_wp2_with fail
      rw [Exit.noGoto_ret]
      go_ret
      exact ⟨by rw [HRR.out]; rfl, HB.out⟩
end Go.Proofs.YtjkmfonngbendaaGreatDoor.Da
/- Contract of package data's written: bytes taken chunk by chunk. -/
namespace Go.Proofs.YtjkmfonngbendaaGreatDoor.Da
set_option linter.unusedVariables false
set_option linter.unusedSimpArgs false
set_option maxRecDepth 100000
open Go.ChangeShapes Go.WideShapes Go.ChangeAt Go.RowKit
open Ar Rg
open Pk (u8s u8s_length)
open It (Itm Ch MkC catC)
section
variable {P : Program} {ops : Array Oper} {Q : Exit → Act → World → Prop} {md : Region.Mode} {S : World → Prop} {n : Nat} {L : Array Bool → Act → World → Prop}
/-- two operations that may come up, each the next one -/
theorem two_T {f : Nat} {listed : Array Bool} {tmps : Array Value} {w : World} (i j : Nat) {oi oj : Oper} (hi : ops[i]? = some oi) (hj : ops[j]? = some oj) (hr : Region.ready md ops listed = [i, j]) (hin : i < n) (hjn : j < n)
    (hwi : Region.wanted oi (yielded ops tmps) = true) (hwj : Region.wanted oj (yielded ops tmps) = true)
    (h1 : ∀ K : Act → World → Prop, Shut (∀ a' w', S w' → wpAnyT P md ops Q S n L f (listed.setIfInBounds i true) a' w' → K a' w') → Oper.wp P oi { tmps := tmps, defers := [] } w K Q)
    (h2 : ∀ K : Act → World → Prop, Shut (∀ a' w', S w' → wpAnyT P md ops Q S n L f (listed.setIfInBounds j true) a' w' → K a' w') → Oper.wp P oj { tmps := tmps, defers := [] } w K Q) :
    wpAnyT P md ops Q S n L (f + 1) listed { tmps := tmps, defers := [] } w := by
  refine ⟨fun h0 => (by rw [hr] at h0; cases h0), fun k hk => ?_⟩
  rw [hr] at hk
  rcases List.mem_cons.1 hk with rfl | hk
  · refine ⟨hin, wpOp_step hi fun K' hK => ?_⟩
    rw [if_pos hwi]
    exact h1 K' (fun a w hS hW => hK a w ⟨hS, hW⟩)
  · have hkj : k = j := by simpa using hk
    subst hkj
    refine ⟨hjn, wpOp_step hj fun K' hK => ?_⟩
    rw [if_pos hwj]
    exact h2 K' (fun a w hS hW => hK a w ⟨hS, hW⟩)
end
/-- what the region leaves that lays bytes into a chunk -/
def WrReg (wr : World) (g : Nat) (c : Ck) (nw : Ch) (s13 : Value) (wx : World) : Prop := ∃ g', s13 = .pointer (some ⟨g', 0, none⟩) ∧ wx.heap[g']? = some (.cells (Sc.enc nw).toArray 41 (0, 0)) ∧ wx.heap[g]? = some (.cells (enC c).toArray 130 (0, 0)) ∧ Below wr.heap.size wr wx
def eqH (a b : Ch) : Bool := decide (a.k = b.k) && (a.h == b.h) && decide (a.v = b.v)
theorem eqH_iff {a b : Ch} : eqH a b = true ↔ a = b := by
  obtain ⟨k, h, v⟩ := a
  obtain ⟨k', h', v'⟩ := b
  simp [eqH, and_assoc]
/-- a chunk's change where bytes are laid into it -/
def nwC (c : Ck) (a : Nat) (b : List UInt8) : Ch := kpC c.k ⟨(laidL (btsB c).data.toList a b).toArray⟩
/-- the changes of bytes that are written -/
def wrL (D : List Ck) (I p : Nat) (b : List UInt8) : List Ch :=
  if h : b = [] then [] else
    (if eqH (nwC (fnd D I (p / 128)) (p % 128) (b.take (min b.length (128 - p % 128)))) (akC (fnd D I (p / 128))) then [] else [nwC (fnd D I (p / 128)) (p % 128) (b.take (min b.length (128 - p % 128)))]) ++
      wrL D I (p + min b.length (128 - p % 128)) (b.drop (min b.length (128 - p % 128)))
termination_by b.length
decreasing_by
  rw [List.length_drop]
  have : b.length ≠ 0 := fun e => h (List.eq_nil_of_length_eq_zero e)
  omega
theorem wrL_nil (D : List Ck) (I p : Nat) : wrL D I p [] = [] := by rw [wrL]; simp
theorem wrL_go {D : List Ck} {I p : Nat} {b : List UInt8} (h : b ≠ []) {c : Ck} {q n : Nat} (hc : fnd D I (p / 128) = c) (hq : p % 128 = q) (hn : min b.length (128 - q) = n) :
    wrL D I p b = (if eqH (nwC c q (b.take n)) (akC c) then [] else [nwC c q (b.take n)]) ++ wrL D I (p + n) (b.drop n) := by
  subst hc hq hn
  rw [wrL, dif_neg h]
theorem zero_ch : (Tryz.prog.info? 41).map (·.size) = some 3 := by kernel_rfl
theorem fnd_v {D : List Ck} (hz : ∀ c ∈ D, c.n < 512 ∧ c.v.size ≤ 160) {I k : Nat} (hk : k < 512) : (fnd D I k).n < 512 ∧ (fnd D I k).v.size ≤ 160 := by
  unfold fnd
  cases hf : D.find? fun c => decide (c.n = k) with
  | none => exact ⟨hk, Nat.zero_le _⟩
  | some c => exact hz c (List.mem_of_find?_eq_some hf)
theorem laidL_len (t : List UInt8) (a : Nat) (b : List UInt8) : (laidL t a b).length = max t.length (a + b.length) := by
  unfold laidL
  have h1 : (cpy (List.replicate (max t.length (a + b.length)) 0) 0 (max t.length (a + b.length)) t).length = max t.length (a + b.length) := by
    rw [cpy_len (by rw [List.length_replicate]; omega), List.length_replicate]
  rw [cpy_len (by rw [h1]; omega), h1]
set_option maxHeartbeats 8000000 in
theorem written_any (D : List Ck) (I : Nat) (hI1 : 1 ≤ I) (hI : I < 4294967296) (p0 : Nat) (s : ByteArray) (hps : p0 + s.size ≤ 65536) (A : Option Addr) (n cap B : Nat) (hn : n = D.length) (hm : n ≤ 281474976710656) (hs : UpC D) (hz : ∀ c ∈ D, c.n < 512 ∧ c.v.size ≤ 160) (w : World) (hB : B ≤ w.heap.size) (hD : Ls enC 4 w B A D) :
    Calls Tryz.prog 35 #[.slice A n cap, .int .u32 I, .int .i64 p0, .string s] w fun e' w' => ∃ v, e' = .returned v ∧ MkC w w' v (wrL D I p0 s.data.toList) := by
  have HFN := Lib.hid (fun (k : Nat) (hk : k < 512) (w1 : World) (hb : Below w.heap.size w w1) => find_any D I k hI1 hI hk A n cap B hn hm hs w1 (Nat.le_trans hB hb.size) (hD.below (hb.mono hB)))
  have HZ := Lib.hid (fun (k : Nat) (hk : k < 512) => fnd_v hz (I := I) hk)
  clear hn hm hs hz hB hD
  go_enter Tryz.func35, Tryz.ntmps35
  go_wp2_with fail
  go_loopw [2, 3, 9] (fun ov bv av wr => ∃ (p : Nat) (t : ByteArray) (E : List Ch), p + t.size ≤ 65536 ∧ ov = .int .i64 p ∧ bv = .string t ∧ Hid (E ++ wrL D I p t.data.toList = wrL D I p0 s.data.toList) ∧ Hid (E.length ≤ p) ∧ Hid (MkC w wr av E)) (fun _ bv _ _ => match bv with | .string t => t.size | _ => 0)
  case atStart => exact ⟨p0, s, [], hps, by go_num, rfl, rfl, Nat.zero_le _, Mk.nil (Below.refl _ _)⟩
  case round =>
    obtain ⟨p, t, E, hpt, rfl, rfl, hE, hEl, hmk⟩ := hrel
    by_cases h0 : t.size = 0
    · have ht : t.data.toList = [] := List.eq_nil_of_length_eq_zero (by rw [Array.length_toList]; exact h0)
      have HE := Lib.hid (show E = wrL D I p0 s.data.toList by have h := Hid.out hE; rwa [ht, wrL_nil, List.append_nil] at h)
      have HM := Lib.hid (Hid.out hmk)
      obtain ⟨A5, c5, hv5, _⟩ := (Hid.out hmk).ls Sc.enc_len
      subst hv5
      have s3 := se3 h0
      clear hE hEl hmk ht h0
      go_wp2
      go_ret
      exact ⟨_, rfl, by rw [← HE.out]; exact HM.out⟩
    · obtain ⟨k, hk⟩ : ∃ k, p / 128 = k := ⟨_, rfl⟩
      obtain ⟨q, hq⟩ : ∃ q, p % 128 = q := ⟨_, rfl⟩
      obtain ⟨nn, hnn⟩ : ∃ nn, min t.size (128 - q) = nn := ⟨_, rfl⟩
      obtain ⟨c, hc⟩ : ∃ c, fnd D I k = c := ⟨_, rfl⟩
      have hk9 : k < 512 := by omega
      have hq9 : q < 128 := by omega
      have hn1 : 1 ≤ nn := by omega
      have hn2 : nn ≤ t.size := by omega
      have hn3 : q + nn ≤ 128 := by omega
      have htl : t.data.toList.length = t.size := by rw [Array.length_toList]; rfl
      have hne : t.data.toList ≠ [] := fun e => h0 (by rw [e] at htl; exact htl.symm)
      have HW := Lib.hid (wrL_go (D := D) (I := I) (p := p) (c := c) (q := q) (n := nn) hne (by rw [hk]; exact hc) hq (by rw [htl]; exact hnn))
      obtain ⟨hcn, hcv⟩ := HZ.out k hk9
      rw [hc] at hcn hcv
      have HFD := Lib.hid (HFN.out k hk9 wr (Hid.out hmk).2)
      rw [hc] at HFD
      have HFD2 := Lib.hid (show Calls Tryz.prog 72 #[.slice A n cap, .int .u32 I, .int .u32 k] wr fun e w' => e = .returned (.agg #[.int .u32 c.n, .string c.k, .bool c.h, .string c.v]) ∧ Below wr.heap.size wr w' from HFD.out)
      have i1 : (p : Int) / 128 = (k : Int) := by omega
      have i2 : (p : Int) % 128 = (q : Int) := by omega
      have i3 : min (t.size : Int) (128 - (q : Int)) = (nn : Int) := by omega
      have i4 : IntKind.u32.wrap (k : Int) = (k : Int) := by simp [IntKind.wrap, IntKind.bits, IntKind.signed]; omega
      have i5 : (nn : Int) ≤ (t.size : Int) := by omega
      have hp9 : p ≤ 65536 := by omega
      have s1 := se1 h0
      have s2 := se2 h0
      have hbz := btsB_size c
      have HBY := Lib.hid (fun w => bytes_any c (by unfold maxLen; omega) w)
      have hxs : (t.extract 0 nn).size = nn := by simp; omega
      have hxl : (t.extract 0 nn).data.toList = t.data.toList.take nn := by
        rw [ByteArray.data_extract, Array.toList_extract, List.extract_eq_take_drop]; simp
      have HLD := Lib.hid (fun w => laid_any (btsB c) q (t.extract 0 nn) (by omega) (by omega) (by omega) (by omega) w)
      rw [hxl] at HLD
      have hyl := laidL_len (btsB c).data.toList q (t.data.toList.take nn)
      have hbl : (btsB c).data.toList.length = (btsB c).size := by rw [Array.length_toList]; rfl
      rw [hbl, List.length_take, htl] at hyl
      have hys : (⟨(laidL (btsB c).data.toList q (t.data.toList.take nn)).toArray⟩ : ByteArray).size ≤ 9223372036854775807 := by
        show (laidL (btsB c).data.toList q (t.data.toList.take nn)).toArray.size ≤ _
        rw [List.size_toArray, hyl]; omega
      have HKP := Lib.hid (fun w => keep_any c.k ⟨(laidL (btsB c).data.toList q (t.data.toList.take nn)).toArray⟩ hys w)
      rw [show kpC c.k ⟨(laidL (btsB c).data.toList q (t.data.toList.take nn)).toArray⟩ = nwC c q (t.data.toList.take nn) from rfl] at HKP
      have HAK := Lib.hid (fun w => asKept_any c w)
      obtain ⟨nw, hnw⟩ : ∃ nw, nwC c q (t.data.toList.take nn) = nw := ⟨_, rfl⟩
      rw [hnw] at HKP HW
      have HKE := Lib.hid (show nw.k = c.k by rw [← hnw]; rfl)
      obtain ⟨bb, hbb⟩ : ∃ bb, btsB c = bb := ⟨_, rfl⟩
      rw [hbb] at HBY HLD HKP
      obtain ⟨yy, hyy⟩ : ∃ yy, (⟨(laidL bb.data.toList q (t.data.toList.take nn)).toArray⟩ : ByteArray) = yy := ⟨_, rfl⟩
      rw [hyy] at HLD HKP
      obtain ⟨xx, hxx⟩ : ∃ xx, t.extract 0 nn = xx := ⟨_, rfl⟩
      rw [hxx] at HLD
      have HXX := Lib.hid hxx
      have HDR := Lib.hid (show (t.extract nn t.size).data.toList = t.data.toList.drop nn by
        rw [ByteArray.data_extract, Array.toList_extract, List.extract_eq_take_drop, List.take_of_length_le]
        rw [List.length_drop, htl]
        exact Nat.le_refl _)
      have HDS := Lib.hid (show (t.extract nn t.size).size = t.size - nn by simp)
      have HM := Lib.hid (Hid.out hmk)
      have HE := Lib.hid (Hid.out hE)
      have HEL := Lib.hid (show E.length + 1 ≤ p + nn by have := Hid.out hEl; omega)
      have HNE := Lib.hid h0
      clear hE hEl hmk hc hk hq hnn hnw hbb hyy hxl hxs hbl htl hne hyl hys hbz hxx h0 HFD hcn hcv
      go_upto_region 6 with (go_at_call 72; refine HFD2.out.mono ?_; rintro e' w3 ⟨rfl, hb3⟩; have HB3 := Lib.hid hb3; have HQ3 := Lib.hid (heap_alloc_new w3 (.cells #[.int .u32 c.n, .string c.k, .bool c.h, .string c.v] 130)); clear hb3)
      rw [i2]
      have HW4 := Lib.hid (HB3.out.trans (((Below.refl w3.heap.size w3).alloc (Nat.le_refl _) (.cells #[.int .u32 c.n, .string c.k, .bool c.h, .string c.v] 130)).mono HB3.out.size))
      have HGW := Lib.hid (show wr.heap.size ≤ w3.heap.size from HB3.out.size)
      generalize w3.alloc _ = w4 at *
      generalize w3.heap.size = g at *
      clear HB3 i1 i2
      go_cut [13] from 14 to 52 (fun s13 wx => Hid (WrReg wr g c nw s13 wx))
      case first =>
        refine wp_region_T (fun w' : World => w'.heap[g]? = some (.cells (enC c).toArray 130 (0, 0))) 11 (by kernel_rfl) (by kernel_rfl) ?_
        have hS : w4.drew.heap[g]? = some (.cells (enC c).toArray 130 (0, 0)) := HQ3.out
        have HBD := Lib.hid (show Below wr.heap.size wr w4.drew from HW4.out.drew)
        have HGG := Lib.hid (row_lt hS)
        refine take_T 0 29 (.pointer (some ⟨g, 1, none⟩)) rfl (by rfl) (by kernel_rfl) (by decide) (by kernel_rfl) (by kernel_rfl) (by kernel_rfl) (fun _ _ _ h => h) (Or.inl ⟨by rfl, fun w' hSw => by go_simp⟩) hS ?_
        simp only [List.setIfInBounds_toArray, List.set_cons_zero, List.set_cons_succ]
        refine take_T 1 30 (.string c.k) rfl (by rfl) (by kernel_rfl) (by decide) (by kernel_rfl) (by kernel_rfl) (by kernel_rfl) (fun _ _ _ h => h) (Or.inl ⟨by rfl, fun w' hSw => by have r := cell_of_row _ _ 1 _ _ _ hSw; simp only [enC] at r; go_simp⟩) hS ?_
        simp only [List.setIfInBounds_toArray, List.set_cons_zero, List.set_cons_succ]
        refine take_T 2 31 (.agg (enC c).toArray) rfl (by rfl) (by kernel_rfl) (by decide) (by kernel_rfl) (by kernel_rfl) (by kernel_rfl) (fun _ _ _ h => h) (Or.inl ⟨by rfl, fun w' hSw => by exact row_runD 130 rfl g rfl _ _ (0, 0) _ hSw Tryz.underlying130 rfl (infoC4 c)⟩) hS ?_
        simp only [List.setIfInBounds_toArray, List.set_cons_zero, List.set_cons_succ]
        refine take_T 4 33 (.int .i64 (q : Int)) rfl (by rfl) (by kernel_rfl) (by decide) (by kernel_rfl) (by kernel_rfl) (by kernel_rfl) (fun _ _ _ h => h) (Or.inl ⟨by rfl, fun w' hSw => by go_simp⟩) hS ?_
        simp only [List.setIfInBounds_toArray, List.set_cons_zero, List.set_cons_succ]
        refine take_T 5 34 (.string t) rfl (by rfl) (by kernel_rfl) (by decide) (by kernel_rfl) (by kernel_rfl) (by kernel_rfl) (fun _ _ _ h => h) (Or.inl ⟨by rfl, fun w' hSw => by go_simp⟩) hS ?_
        simp only [List.setIfInBounds_toArray, List.set_cons_zero, List.set_cons_succ]
        refine take_T 6 35 (.int .i64 (nn : Int)) rfl (by rfl) (by kernel_rfl) (by decide) (by kernel_rfl) (by kernel_rfl) (by kernel_rfl) (fun _ _ _ h => h) (Or.inl ⟨by rfl, fun w' hSw => by go_simp⟩) hS ?_
        simp only [List.setIfInBounds_toArray, List.set_cons_zero, List.set_cons_succ]
        refine take_T 7 36 (.string xx) rfl (by rfl) (by kernel_rfl) (by decide) (by kernel_rfl) (by kernel_rfl) (by kernel_rfl) (fun _ _ _ h => h) (Or.inl ⟨by rfl, fun w' hSw => by have hx := HXX.out; go_simp⟩) hS ?_
        simp only [List.setIfInBounds_toArray, List.set_cons_zero, List.set_cons_succ]
        generalize w4.drew = v0 at *
        refine two_T 3 10 rfl rfl (by kernel_rfl) (by decide) (by decide) (by rfl) (by rfl) (fun K hK => ?_) (fun K hK => ?_)
        · go_wp2_with fail
          refine (HBY.out _).mono ?_
          rintro e' v1 ⟨rfl, hb⟩
          have HBD1 := Lib.hid (HBD.out.trans (hb.mono HBD.out.size))
          have hS2 : v1.heap[g]? = some (.cells (enC c).toArray 130 (0, 0)) := (hb.block _ (row_lt hS)).trans hS
          clear hb
          refine hK.out _ _ hS2 ?_
          clear hK K
          try simp only [Act.put, List.setIfInBounds_toArray, List.set_cons_zero, List.set_cons_succ]
          clear hS
          have hS := hS2
          clear hS2
          refine two_T 8 10 rfl rfl (by kernel_rfl) (by decide) (by decide) (by rfl) (by rfl) (fun K hK => ?_) (fun K hK => ?_)
          · go_wp2_with fail
            refine (HLD.out _).mono ?_
            rintro e' v2 ⟨rfl, hb⟩
            have HBD2 := Lib.hid (HBD1.out.trans (hb.mono HBD1.out.size))
            have hS2 : v2.heap[g]? = some (.cells (enC c).toArray 130 (0, 0)) := (hb.block _ (row_lt hS)).trans hS
            clear hb
            refine hK.out _ _ hS2 ?_
            clear hK K
            try simp only [Act.put, List.setIfInBounds_toArray, List.set_cons_zero, List.set_cons_succ]
            clear hS
            have hS := hS2
            clear hS2
            refine two_T 9 10 rfl rfl (by kernel_rfl) (by decide) (by decide) (by rfl) (by rfl) (fun K hK => ?_) (fun K hK => ?_)
            · go_wp2_with fail
              refine (HKP.out _).mono ?_
              rintro e' v3 ⟨rfl, hb⟩
              have HBD3 := Lib.hid (HBD2.out.trans (hb.mono HBD2.out.size))
              have hS2 : v3.heap[g]? = some (.cells (enC c).toArray 130 (0, 0)) := (hb.block _ (row_lt hS)).trans hS
              clear hb
              refine hK.out _ _ hS2 ?_
              clear hK K
              try simp only [Act.put, List.setIfInBounds_toArray, List.set_cons_zero, List.set_cons_succ]
              clear hS
              have hS := hS2
              clear hS2
              refine only_T 10 rfl (by kernel_rfl) (by decide) (by rfl) (fun K hK => ?_)
              have hb : Below v3.heap.size v3 (v3.alloc (.cells #[.string ⟨#[]⟩, .bool false, .string ⟨#[]⟩] 41)) := (Below.refl _ _).alloc (Nat.le_refl _) _
              have HA4 := Lib.hid (heap_alloc_new v3 (.cells #[.string ⟨#[]⟩, .bool false, .string ⟨#[]⟩] 41))
              have HGA := Lib.hid (show wr.heap.size ≤ v3.heap.size from HBD3.out.size)
              have HNE2 := Lib.hid (show g ≠ v3.heap.size from Nat.ne_of_lt (row_lt hS))
              have HBD4 := Lib.hid (HBD3.out.trans (hb.mono HBD3.out.size))
              have hS2 : (v3.alloc (.cells #[.string ⟨#[]⟩, .bool false, .string ⟨#[]⟩] 41)).heap[g]? = some (.cells (enC c).toArray 130 (0, 0)) := (hb.block _ (row_lt hS)).trans hS
              go_simp
              clear hb
              generalize v3.alloc _ = v4 at *
              generalize v3.heap.size = ga at *
              refine hK.out _ _ hS2 ?_
              clear hK K
              try simp only [Act.put, List.setIfInBounds_toArray, List.set_cons_zero, List.set_cons_succ]
              clear hS
              have hS := hS2
              clear hS2
              refine done_T (by kernel_rfl) ?_
              simp only [List.drop_succ_cons, List.drop_zero]
              have HF := Lib.hid (setRow_heap' (cs := (Sc.enc nw).toArray) HA4.out)
              have HG := Lib.hid (show (v4.setRow ga (Sc.enc nw).toArray).heap[g]? = some (.cells (enC c).toArray 130 (0, 0)) from (setRow_other v4 ga g _ HNE2.out).trans hS)
              have HH := Lib.hid (grown_row HBD4.out HGA.out (Sc.enc nw).toArray)
              go_wp2_with (refine wpList_store_row rfl 41 (.tmp 13) (.tmp 38) rfl ga (Sc.enc nw).toArray rfl rfl 41 #[.string ⟨#[]⟩, .bool false, .string ⟨#[]⟩] HA4.out (infoH3 nw) rfl (all_oneCell_toArray (Sc.enc_one nw)) ?_)
              go_meet
              exact ⟨ga, rfl, HF.out, HG.out, HH.out⟩
            · have hb : Below v2.heap.size v2 (v2.alloc (.cells #[.string ⟨#[]⟩, .bool false, .string ⟨#[]⟩] 41)) := (Below.refl _ _).alloc (Nat.le_refl _) _
              have HA5 := Lib.hid (heap_alloc_new v2 (.cells #[.string ⟨#[]⟩, .bool false, .string ⟨#[]⟩] 41))
              have HGA := Lib.hid (show wr.heap.size ≤ v2.heap.size from HBD2.out.size)
              have HNE2 := Lib.hid (show g ≠ v2.heap.size from Nat.ne_of_lt (row_lt hS))
              have HBD5 := Lib.hid (HBD2.out.trans (hb.mono HBD2.out.size))
              have hS2 : (v2.alloc (.cells #[.string ⟨#[]⟩, .bool false, .string ⟨#[]⟩] 41)).heap[g]? = some (.cells (enC c).toArray 130 (0, 0)) := (hb.block _ (row_lt hS)).trans hS
              go_simp
              clear hb
              generalize v2.alloc _ = v5 at *
              generalize v2.heap.size = ga at *
              refine hK.out _ _ hS2 ?_
              clear hK K
              try simp only [Act.put, List.setIfInBounds_toArray, List.set_cons_zero, List.set_cons_succ]
              clear hS
              have hS := hS2
              clear hS2
              refine only_T 9 rfl (by kernel_rfl) (by decide) (by rfl) (fun K hK => ?_)
              go_wp2_with fail
              refine (HKP.out _).mono ?_
              rintro e' v6 ⟨rfl, hb⟩
              have HBD6 := Lib.hid (HBD5.out.trans (hb.mono HBD5.out.size))
              have hS2 : v6.heap[g]? = some (.cells (enC c).toArray 130 (0, 0)) := (hb.block _ (row_lt hS)).trans hS
              have HA6 := Lib.hid ((hb.block _ (row_lt HA5.out)).trans HA5.out)
              clear hb
              refine hK.out _ _ hS2 ?_
              clear hK K
              try simp only [Act.put, List.setIfInBounds_toArray, List.set_cons_zero, List.set_cons_succ]
              clear hS
              have hS := hS2
              clear hS2
              refine done_T (by kernel_rfl) ?_
              simp only [List.drop_succ_cons, List.drop_zero]
              have HF := Lib.hid (setRow_heap' (cs := (Sc.enc nw).toArray) HA6.out)
              have HG := Lib.hid (show (v6.setRow ga (Sc.enc nw).toArray).heap[g]? = some (.cells (enC c).toArray 130 (0, 0)) from (setRow_other v6 ga g _ HNE2.out).trans hS)
              have HH := Lib.hid (grown_row HBD6.out HGA.out (Sc.enc nw).toArray)
              go_wp2_with (refine wpList_store_row rfl 41 (.tmp 13) (.tmp 38) rfl ga (Sc.enc nw).toArray rfl rfl 41 #[.string ⟨#[]⟩, .bool false, .string ⟨#[]⟩] HA6.out (infoH3 nw) rfl (all_oneCell_toArray (Sc.enc_one nw)) ?_)
              go_meet
              exact ⟨ga, rfl, HF.out, HG.out, HH.out⟩
          · have hb : Below v1.heap.size v1 (v1.alloc (.cells #[.string ⟨#[]⟩, .bool false, .string ⟨#[]⟩] 41)) := (Below.refl _ _).alloc (Nat.le_refl _) _
            have HA7 := Lib.hid (heap_alloc_new v1 (.cells #[.string ⟨#[]⟩, .bool false, .string ⟨#[]⟩] 41))
            have HGA := Lib.hid (show wr.heap.size ≤ v1.heap.size from HBD1.out.size)
            have HNE2 := Lib.hid (show g ≠ v1.heap.size from Nat.ne_of_lt (row_lt hS))
            have HBD7 := Lib.hid (HBD1.out.trans (hb.mono HBD1.out.size))
            have hS2 : (v1.alloc (.cells #[.string ⟨#[]⟩, .bool false, .string ⟨#[]⟩] 41)).heap[g]? = some (.cells (enC c).toArray 130 (0, 0)) := (hb.block _ (row_lt hS)).trans hS
            go_simp
            clear hb
            generalize v1.alloc _ = v7 at *
            generalize v1.heap.size = ga at *
            refine hK.out _ _ hS2 ?_
            clear hK K
            try simp only [Act.put, List.setIfInBounds_toArray, List.set_cons_zero, List.set_cons_succ]
            clear hS
            have hS := hS2
            clear hS2
            refine only_T 8 rfl (by kernel_rfl) (by decide) (by rfl) (fun K hK => ?_)
            go_wp2_with fail
            refine (HLD.out _).mono ?_
            rintro e' v8 ⟨rfl, hb⟩
            have HBD8 := Lib.hid (HBD7.out.trans (hb.mono HBD7.out.size))
            have hS2 : v8.heap[g]? = some (.cells (enC c).toArray 130 (0, 0)) := (hb.block _ (row_lt hS)).trans hS
            have HA8 := Lib.hid ((hb.block _ (row_lt HA7.out)).trans HA7.out)
            clear hb
            refine hK.out _ _ hS2 ?_
            clear hK K
            try simp only [Act.put, List.setIfInBounds_toArray, List.set_cons_zero, List.set_cons_succ]
            clear hS
            have hS := hS2
            clear hS2
            refine only_T 9 rfl (by kernel_rfl) (by decide) (by rfl) (fun K hK => ?_)
            go_wp2_with fail
            refine (HKP.out _).mono ?_
            rintro e' v9 ⟨rfl, hb⟩
            have HBD9 := Lib.hid (HBD8.out.trans (hb.mono HBD8.out.size))
            have hS2 : v9.heap[g]? = some (.cells (enC c).toArray 130 (0, 0)) := (hb.block _ (row_lt hS)).trans hS
            have HA9 := Lib.hid ((hb.block _ (row_lt HA8.out)).trans HA8.out)
            clear hb
            refine hK.out _ _ hS2 ?_
            clear hK K
            try simp only [Act.put, List.setIfInBounds_toArray, List.set_cons_zero, List.set_cons_succ]
            clear hS
            have hS := hS2
            clear hS2
            refine done_T (by kernel_rfl) ?_
            simp only [List.drop_succ_cons, List.drop_zero]
            have HF := Lib.hid (setRow_heap' (cs := (Sc.enc nw).toArray) HA9.out)
            have HG := Lib.hid (show (v9.setRow ga (Sc.enc nw).toArray).heap[g]? = some (.cells (enC c).toArray 130 (0, 0)) from (setRow_other v9 ga g _ HNE2.out).trans hS)
            have HH := Lib.hid (grown_row HBD9.out HGA.out (Sc.enc nw).toArray)
            go_wp2_with (refine wpList_store_row rfl 41 (.tmp 13) (.tmp 38) rfl ga (Sc.enc nw).toArray rfl rfl 41 #[.string ⟨#[]⟩, .bool false, .string ⟨#[]⟩] HA9.out (infoH3 nw) rfl (all_oneCell_toArray (Sc.enc_one nw)) ?_)
            go_meet
            exact ⟨ga, rfl, HF.out, HG.out, HH.out⟩
        · have hb : Below v0.heap.size v0 (v0.alloc (.cells #[.string ⟨#[]⟩, .bool false, .string ⟨#[]⟩] 41)) := (Below.refl _ _).alloc (Nat.le_refl _) _
          have HA10 := Lib.hid (heap_alloc_new v0 (.cells #[.string ⟨#[]⟩, .bool false, .string ⟨#[]⟩] 41))
          have HGA := Lib.hid (show wr.heap.size ≤ v0.heap.size from HBD.out.size)
          have HNE2 := Lib.hid (show g ≠ v0.heap.size from Nat.ne_of_lt (row_lt hS))
          have HBD10 := Lib.hid (HBD.out.trans (hb.mono HBD.out.size))
          have hS2 : (v0.alloc (.cells #[.string ⟨#[]⟩, .bool false, .string ⟨#[]⟩] 41)).heap[g]? = some (.cells (enC c).toArray 130 (0, 0)) := (hb.block _ (row_lt hS)).trans hS
          go_simp
          clear hb
          generalize v0.alloc _ = v10 at *
          generalize v0.heap.size = ga at *
          refine hK.out _ _ hS2 ?_
          clear hK K
          try simp only [Act.put, List.setIfInBounds_toArray, List.set_cons_zero, List.set_cons_succ]
          clear hS
          have hS := hS2
          clear hS2
          refine only_T 3 rfl (by kernel_rfl) (by decide) (by rfl) (fun K hK => ?_)
          go_wp2_with fail
          refine (HBY.out _).mono ?_
          rintro e' v11 ⟨rfl, hb⟩
          have HBD11 := Lib.hid (HBD10.out.trans (hb.mono HBD10.out.size))
          have hS2 : v11.heap[g]? = some (.cells (enC c).toArray 130 (0, 0)) := (hb.block _ (row_lt hS)).trans hS
          have HA11 := Lib.hid ((hb.block _ (row_lt HA10.out)).trans HA10.out)
          clear hb
          refine hK.out _ _ hS2 ?_
          clear hK K
          try simp only [Act.put, List.setIfInBounds_toArray, List.set_cons_zero, List.set_cons_succ]
          clear hS
          have hS := hS2
          clear hS2
          refine only_T 8 rfl (by kernel_rfl) (by decide) (by rfl) (fun K hK => ?_)
          go_wp2_with fail
          refine (HLD.out _).mono ?_
          rintro e' v12 ⟨rfl, hb⟩
          have HBD12 := Lib.hid (HBD11.out.trans (hb.mono HBD11.out.size))
          have hS2 : v12.heap[g]? = some (.cells (enC c).toArray 130 (0, 0)) := (hb.block _ (row_lt hS)).trans hS
          have HA12 := Lib.hid ((hb.block _ (row_lt HA11.out)).trans HA11.out)
          clear hb
          refine hK.out _ _ hS2 ?_
          clear hK K
          try simp only [Act.put, List.setIfInBounds_toArray, List.set_cons_zero, List.set_cons_succ]
          clear hS
          have hS := hS2
          clear hS2
          refine only_T 9 rfl (by kernel_rfl) (by decide) (by rfl) (fun K hK => ?_)
          go_wp2_with fail
          refine (HKP.out _).mono ?_
          rintro e' v13 ⟨rfl, hb⟩
          have HBD13 := Lib.hid (HBD12.out.trans (hb.mono HBD12.out.size))
          have hS2 : v13.heap[g]? = some (.cells (enC c).toArray 130 (0, 0)) := (hb.block _ (row_lt hS)).trans hS
          have HA13 := Lib.hid ((hb.block _ (row_lt HA12.out)).trans HA12.out)
          clear hb
          refine hK.out _ _ hS2 ?_
          clear hK K
          try simp only [Act.put, List.setIfInBounds_toArray, List.set_cons_zero, List.set_cons_succ]
          clear hS
          have hS := hS2
          clear hS2
          refine done_T (by kernel_rfl) ?_
          simp only [List.drop_succ_cons, List.drop_zero]
          have HF := Lib.hid (setRow_heap' (cs := (Sc.enc nw).toArray) HA13.out)
          have HG := Lib.hid (show (v13.setRow ga (Sc.enc nw).toArray).heap[g]? = some (.cells (enC c).toArray 130 (0, 0)) from (setRow_other v13 ga g _ HNE2.out).trans hS)
          have HH := Lib.hid (grown_row HBD13.out HGA.out (Sc.enc nw).toArray)
          go_wp2_with (refine wpList_store_row rfl 41 (.tmp 13) (.tmp 38) rfl ga (Sc.enc nw).toArray rfl rfl 41 #[.string ⟨#[]⟩, .bool false, .string ⟨#[]⟩] HA13.out (infoH3 nw) rfl (all_oneCell_toArray (Sc.enc_one nw)) ?_)
          go_meet
          exact ⟨ga, rfl, HF.out, HG.out, HH.out⟩
      case rest =>
        obtain ⟨ga, hs13, hra, hrc, hbw⟩ := Hid.out hcut
        subst hs13
        have HRA := Lib.hid hra
        have HRC := Lib.hid hrc
        have HM2 := Lib.hid (HM.out.go hbw)
        obtain ⟨nk, nh, nv⟩ := nw
        have hkk : nk = c.k := HKE.out
        subst hkk
        have l1 := row_lt hra
        have l2 := row_lt hrc
        clear hcut hra hrc hbw HW4 HGW HM HKE HKP HLD HBY HFD2 HQ3
        have HW2 : Hid _ := HW
        have hpnn : p + nn ≤ 65536 := by omega
        have j5 : (nn : Int) ≤ (t.size : Int) := by omega
        have HIR := Lib.hid (infoH3 (⟨c.k, nh, nv⟩ : Ch))
        by_cases hh : nh = c.h
        · subst hh
          by_cases hv : nv = c.v
          · subst hv
            have HQ := Lib.hid (show (if eqH (⟨c.k, c.h, c.v⟩ : Ch) (akC c) then ([] : List Ch) else [⟨c.k, c.h, c.v⟩]) = [] by rw [show eqH (⟨c.k, c.h, c.v⟩ : Ch) (akC c) = true from eqH_iff.2 rfl]; rfl)
            go_wp2_with fail
            refine wp_region_G (fun w' => Below wc.heap.size wc w') (by kernel_rfl) (by kernel_rfl) (Below.refl _ _).drew ?_
            refine wpG_val (.agg (Sc.enc (⟨c.k, c.h, c.v⟩ : Ch)).toArray) rfl (by rfl) (fun w' hSw => by have r := (hSw.block _ l1).trans HRA.out; exact row_runD 41 rfl ga rfl _ _ (0, 0) _ r Tryz.underlying41 rfl HIR.out) ?_
            simp only [List.setIfInBounds_toArray, List.set_cons_zero, List.set_cons_succ]
            refine wpG_val (.agg (enC c).toArray) rfl (by rfl) (fun w' hSw => by have r := (hSw.block _ l2).trans HRC.out; exact row_runD 130 rfl g rfl _ _ (0, 0) _ r Tryz.underlying130 rfl (infoC4 c)) ?_
            simp only [List.setIfInBounds_toArray, List.set_cons_zero, List.set_cons_succ]
            refine wpG_call (.agg (Sc.enc (akC c)).toArray) 76 #[.agg (enC c).toArray] rfl (by rfl) (fun w' => by go_simp) (fun w' hSw => (HAK.out w').mono fun e w2 h => ⟨h.1, hSw.trans (h.2.mono hSw.size)⟩) ?_
            simp only [List.setIfInBounds_toArray, List.set_cons_zero, List.set_cons_succ]
            refine wpG_val (.bool false) rfl (by rfl) (fun w' hSw => by simp only [Sc.enc, akC]; go_simp) ?_
            simp only [List.setIfInBounds_toArray, List.set_cons_zero, List.set_cons_succ]
            refine wpG_nil ?_
            intro wS hSw
            have HMS := Lib.hid (HM2.out.go hSw)
            have HRS := Lib.hid (show wS.heap[ga]? = some (.cells #[.string c.k, .bool c.h, .string c.v] 41 (0, 0)) from (hSw.block _ l1).trans HRA.out)
            clear hSw
            have HEN := Lib.hid (show E ++ wrL D I (p + nn) (t.extract nn t.size).data.toList = wrL D I p0 s.data.toList by rw [HDR.out, ← HE.out, HW.out, HQ.out] <;> rfl)
            have HLN := Lib.hid (show E.length ≤ p + nn by have := HEL.out; omega)
            go_wp2_with fail
            exact ⟨⟨p + nn, _, _, (by rw [HDS.out]; omega), by go_num, rfl, HEN.out, HLN.out, HMS.out⟩, by show (t.extract nn t.size).size < t.size; rw [HDS.out]; omega⟩
          · have HQ := Lib.hid (show (if eqH (⟨c.k, c.h, nv⟩ : Ch) (akC c) then ([] : List Ch) else [⟨c.k, c.h, nv⟩]) = [⟨c.k, c.h, nv⟩] by rw [if_neg (fun e => hv (by have := eqH_iff.1 e; unfold akC at this; injection this))])
            have sv : (nv.toList == c.v.toList) = false := by
              rw [beq_eq_false_iff_ne, ByteArray.toList_eq, ByteArray.toList_eq]
              exact fun e => hv (ByteArray.ext (Array.toList_inj.1 e))
            clear hv
            go_wp2_with fail
            refine wp_region_G (fun w' => Below wc.heap.size wc w') (by kernel_rfl) (by kernel_rfl) (Below.refl _ _).drew ?_
            refine wpG_val (.agg (Sc.enc (⟨c.k, c.h, nv⟩ : Ch)).toArray) rfl (by rfl) (fun w' hSw => by have r := (hSw.block _ l1).trans HRA.out; exact row_runD 41 rfl ga rfl _ _ (0, 0) _ r Tryz.underlying41 rfl HIR.out) ?_
            simp only [List.setIfInBounds_toArray, List.set_cons_zero, List.set_cons_succ]
            refine wpG_val (.agg (enC c).toArray) rfl (by rfl) (fun w' hSw => by have r := (hSw.block _ l2).trans HRC.out; exact row_runD 130 rfl g rfl _ _ (0, 0) _ r Tryz.underlying130 rfl (infoC4 c)) ?_
            simp only [List.setIfInBounds_toArray, List.set_cons_zero, List.set_cons_succ]
            refine wpG_call (.agg (Sc.enc (akC c)).toArray) 76 #[.agg (enC c).toArray] rfl (by rfl) (fun w' => by go_simp) (fun w' hSw => (HAK.out w').mono fun e w2 h => ⟨h.1, hSw.trans (h.2.mono hSw.size)⟩) ?_
            simp only [List.setIfInBounds_toArray, List.set_cons_zero, List.set_cons_succ]
            refine wpG_val (.bool true) rfl (by rfl) (fun w' hSw => by simp only [Sc.enc, akC]; go_simp) ?_
            simp only [List.setIfInBounds_toArray, List.set_cons_zero, List.set_cons_succ]
            refine wpG_nil ?_
            intro wS hSw
            have HMS := Lib.hid (HM2.out.go hSw)
            have HRS := Lib.hid (show wS.heap[ga]? = some (.cells #[.string c.k, .bool c.h, .string nv] 41 (0, 0)) from (hSw.block _ l1).trans HRA.out)
            clear hSw
            have HEN := Lib.hid (show (E ++ [(⟨c.k, c.h, nv⟩ : Ch)]) ++ wrL D I (p + nn) (t.extract nn t.size).data.toList = wrL D I p0 s.data.toList by rw [HDR.out, List.append_assoc, ← HE.out, HW.out, HQ.out] <;> rfl)
            have HLN := Lib.hid (show (E ++ [(⟨c.k, c.h, nv⟩ : Ch)]).length ≤ p + nn by rw [List.length_append]; exact HEL.out)
            have HDL := Lib.hid (show E.length + 1 ≤ 3518437208883 by have := HEL.out; omega)
            go_wp2_with (first
              | (refine wpList_load_row rfl 41 (.tmp 13) rfl ga rfl 41 #[.string c.k, .bool c.h, .string nv] (0, 0) _ HRS.out Tryz.underlying41 rfl HIR.out ?_)
              | (at_builtin; refine catC (HMS.out.alloc _) [(⟨c.k, c.h, nv⟩ : Ch)] _ 1 1 rfl (Ls.new _ (⟨c.k, c.h, nv⟩ : Ch) _ _ (Nat.lt_succ_self _)) HDL.out rfl _ _ rfl rfl rfl ?_; intro v5 w5 hM5 hG5; have HM5 := Lib.hid hM5; clear hM5 hG5))
            exact ⟨⟨p + nn, _, _, (by rw [HDS.out]; omega), by go_num, rfl, HEN.out, HLN.out, HM5.out⟩, by show (t.extract nn t.size).size < t.size; rw [HDS.out]; omega⟩
        · have HQ := Lib.hid (show (if eqH (⟨c.k, nh, nv⟩ : Ch) (akC c) then ([] : List Ch) else [⟨c.k, nh, nv⟩]) = [⟨c.k, nh, nv⟩] by rw [if_neg (fun e => hh (by have := eqH_iff.1 e; unfold akC at this; injection this))])
          have sh : (nh == c.h) = false := by rw [beq_eq_false_iff_ne]; exact hh
          clear hh
          go_wp2_with fail
          refine wp_region_G (fun w' => Below wc.heap.size wc w') (by kernel_rfl) (by kernel_rfl) (Below.refl _ _).drew ?_
          refine wpG_val (.agg (Sc.enc (⟨c.k, nh, nv⟩ : Ch)).toArray) rfl (by rfl) (fun w' hSw => by have r := (hSw.block _ l1).trans HRA.out; exact row_runD 41 rfl ga rfl _ _ (0, 0) _ r Tryz.underlying41 rfl HIR.out) ?_
          simp only [List.setIfInBounds_toArray, List.set_cons_zero, List.set_cons_succ]
          refine wpG_val (.agg (enC c).toArray) rfl (by rfl) (fun w' hSw => by have r := (hSw.block _ l2).trans HRC.out; exact row_runD 130 rfl g rfl _ _ (0, 0) _ r Tryz.underlying130 rfl (infoC4 c)) ?_
          simp only [List.setIfInBounds_toArray, List.set_cons_zero, List.set_cons_succ]
          refine wpG_call (.agg (Sc.enc (akC c)).toArray) 76 #[.agg (enC c).toArray] rfl (by rfl) (fun w' => by go_simp) (fun w' hSw => (HAK.out w').mono fun e w2 h => ⟨h.1, hSw.trans (h.2.mono hSw.size)⟩) ?_
          simp only [List.setIfInBounds_toArray, List.set_cons_zero, List.set_cons_succ]
          refine wpG_val (.bool true) rfl (by rfl) (fun w' hSw => by simp only [Sc.enc, akC]; go_simp) ?_
          simp only [List.setIfInBounds_toArray, List.set_cons_zero, List.set_cons_succ]
          refine wpG_nil ?_
          intro wS hSw
          have HMS := Lib.hid (HM2.out.go hSw)
          have HRS := Lib.hid (show wS.heap[ga]? = some (.cells #[.string c.k, .bool nh, .string nv] 41 (0, 0)) from (hSw.block _ l1).trans HRA.out)
          clear hSw
          have HEN := Lib.hid (show (E ++ [(⟨c.k, nh, nv⟩ : Ch)]) ++ wrL D I (p + nn) (t.extract nn t.size).data.toList = wrL D I p0 s.data.toList by rw [HDR.out, List.append_assoc, ← HE.out, HW.out, HQ.out] <;> rfl)
          have HLN := Lib.hid (show (E ++ [(⟨c.k, nh, nv⟩ : Ch)]).length ≤ p + nn by rw [List.length_append]; exact HEL.out)
          have HDL := Lib.hid (show E.length + 1 ≤ 3518437208883 by have := HEL.out; omega)
          go_wp2_with (first
            | (refine wpList_load_row rfl 41 (.tmp 13) rfl ga rfl 41 #[.string c.k, .bool nh, .string nv] (0, 0) _ HRS.out Tryz.underlying41 rfl HIR.out ?_)
            | (at_builtin; refine catC (HMS.out.alloc _) [(⟨c.k, nh, nv⟩ : Ch)] _ 1 1 rfl (Ls.new _ (⟨c.k, nh, nv⟩ : Ch) _ _ (Nat.lt_succ_self _)) HDL.out rfl _ _ rfl rfl rfl ?_; intro v5 w5 hM5 hG5; have HM5 := Lib.hid hM5; clear hM5 hG5))
          exact ⟨⟨p + nn, _, _, (by rw [HDS.out]; omega), by go_num, rfl, HEN.out, HLN.out, HM5.out⟩, by show (t.extract nn t.size).size < t.size; rw [HDS.out]; omega⟩
end Go.Proofs.YtjkmfonngbendaaGreatDoor.Da
/- Contract of package data's cut: what is behind a place is no more. -/
namespace Go.Proofs.YtjkmfonngbendaaGreatDoor.Da
set_option linter.unusedVariables false
set_option linter.unusedSimpArgs false
set_option maxRecDepth 100000
open Go.ChangeShapes Go.WideShapes Go.ChangeAt Go.RowKit
open Ar Rg
open Pk (u8s u8s_length)
open It (Itm Ch MkC catC)
/-- the change of a chunk that is cut -/
def ctC (z : Nat) (c : Ck) : List Ch := if z - c.n * 128 = 0 ∨ z - c.n * 128 < c.v.size then [kpC c.k (c.v.extract 0 (z - c.n * 128))] else []
def ctL (D : List Ck) (z : Nat) : List Ch := D.flatMap (ctC z)
theorem ct_sn {D : List Ck} {i : Nat} {c : Ck} (z : Nat) (h : D[i]? = some c) : ctL (D.take (i + 1)) z = ctL (D.take i) z ++ ctC z c := by
  unfold ctL
  rw [List.take_add_one, h, List.flatMap_append]
  simp
theorem ctC_len (z : Nat) (c : Ck) : (ctC z c).length ≤ 1 := by unfold ctC; split <;> simp
end Go.Proofs.YtjkmfonngbendaaGreatDoor.Da
/- Contracts of package data's Read, Write and Cut. -/
namespace Go.Proofs.YtjkmfonngbendaaGreatDoor.Da
set_option linter.unusedVariables false
set_option linter.unusedSimpArgs false
set_option maxRecDepth 100000
open Go.ChangeShapes Go.WideShapes Go.ChangeAt Go.RowKit
open Ar Rg
open Pk (u8s u8s_length be bytesLess_be)
open It (Itm Ch MkC catC rt und key pre UpK rt_iff okI okKey lt)
open Ino (wrK wrK_pfx pfx deK deKE)
theorem ec_zero {D : List Itm} {I : Nat} (h : ec D I = 0) : rt D = true ∧ 1 ≤ I := by
  unfold ec at h
  split at h
  · rename_i hr
    split at h
    · cases h
    · exact ⟨hr, by omega⟩
  · cases h
/-- Read's and Cut's error -/
def rdE (D : List Itm) (I z : Nat) : Int := if ec D I = 0 then (if 65536 < z then 1 else 0) else ec D I
def rdV (D : List Itm) (I z o n : Nat) : ByteArray := if rdE D I z = 0 then ⟨(rdC (chs D I) o (min (o + n) z)).toArray⟩ else ByteArray.empty
/-- what Write, and what Cut answers -/
def ChPost (w : World) (E : Int) (R : List Ch) (e : Ending) (w' : World) : Prop := ∃ v, e = .returned (.tuple #[v, .int .i64 E]) ∧ MkC w w' v (if E = 0 then R else [])
def wrE (D : List Itm) (I o : Nat) (s : ByteArray) : Int := if ec D I = 0 then (if 65536 < o + s.size then 1 else 0) else ec D I
theorem bne0 {x : Int} (h : x ≠ 0) : (x != 0) = true := by rw [bne_iff_ne]; exact h
set_option maxHeartbeats 1000000 in
theorem Read_any (D : List Itm) (I z o nn : Nat) (hI : I < 4294967296) (hz : z < 4294967296) (ho : o < 4294967296) (hnn : nn < 4294967296) (A : Option Addr) (n c B : Nat) (hn : n = D.length) (hc : n ≤ c) (hcm : c ≤ maxLen) (hlen : n ≤ 4398046511104) (w : World) (hB : B ≤ w.heap.size) (hD : Ls It.enc 2 w B A D) :
    Calls Tryz.prog 20 #[.slice A n c, .int .u32 I, .int .u32 z, .int .u32 o, .int .u32 nn] w fun e w' => e = .returned (.tuple #[.string (rdV D I z o nn), .int .i64 (rdE D I z)]) ∧ Below w.heap.size w w' := by
  have HCH := Lib.hid (chunksOf_any D I hI A n c B hn hc hcm hlen w hB hD)
  clear hD hB hn
  by_cases he : ec D I = 0
  · obtain ⟨hr, hI1⟩ := ec_zero he
    have HUP := Lib.hid (chs_up hr hI1 hI)
    have HSZ := Lib.hid (chs_sz hr hI1 hI)
    have HCL := Lib.hid (show (chs D I).length ≤ 512 from chs_few hr hI1 hI)
    rw [he] at HCH
    by_cases hz9 : 65536 < z
    · have HE := Lib.hid (show rdE D I z = 1 by unfold rdE; rw [if_pos he, if_pos hz9])
      have HV := Lib.hid (show rdV D I z o nn = ⟨#[]⟩ by unfold rdV; rw [HE.out]; rfl)
      have d1 : decide ((65536 : Int) < (z : Int)) = true := by rw [decide_eq_true_iff]; omega
      clear he hz9
      go_enter Tryz.func20, Tryz.ntmps20
      go_wp2_with fail
      (with_reducible refine HCH.out.mono ?_)
      rintro e w1 ⟨v, rfl, hm⟩
      have HB := Lib.hid hm.2
      obtain ⟨A5, c5, hv5, _⟩ := hm.ls enC_len
      subst hv5
      clear hm
      go_wp2
      go_ret2
      exact ⟨by rw [HE.out, HV.out] <;> rfl, HB.out⟩
    · have HE := Lib.hid (show rdE D I z = 0 by unfold rdE; rw [if_pos he, if_neg hz9])
      obtain ⟨e, hee⟩ : ∃ e, min (o + nn) z = e := ⟨_, rfl⟩
      have HV := Lib.hid (show rdV D I z o nn = ⟨(rdC (chs D I) o e).toArray⟩ by unfold rdV; rw [HE.out, if_pos rfl, hee])
      have d1 : decide ((65536 : Int) < (z : Int)) = false := by rw [decide_eq_false_iff_not]; omega
      have e1 : min ((o : Int) + (nn : Int)) (z : Int) = (e : Int) := by omega
      have he9 : e ≤ 65536 := by omega
      by_cases hoe : e ≤ o
      · have HX := Lib.hid (show rdC (chs D I) o e = [] from List.eq_nil_of_length_eq_zero (by rw [rdC_len]; omega))
        have d2 : decide (e ≤ o) = true := decide_eq_true hoe
        clear he hz9 hee hoe
        go_enter Tryz.func20, Tryz.ntmps20
        go_wp2_with fail
        (with_reducible refine HCH.out.mono ?_)
        rintro e' w1 ⟨v, rfl, hm⟩
        have HB := Lib.hid hm.2
        obtain ⟨A5, c5, hv5, _⟩ := hm.ls enC_len
        subst hv5
        clear hm
        go_wp2
        go_ret2
        exact ⟨by rw [HE.out, HV.out, HX.out] <;> rfl, HB.out⟩
      · have d2 : decide (e ≤ o) = false := decide_eq_false hoe
        have ho9 : o < e := by omega
        clear he hz9 hee hoe
        go_enter Tryz.func20, Tryz.ntmps20
        go_wp2_with fail
        (with_reducible refine HCH.out.mono ?_)
        rintro e' w1 ⟨v, rfl, hm⟩
        have HB := Lib.hid hm.2
        obtain ⟨A5, c5, hv5, _, _, hl⟩ := hm.ls enC_len
        simp only [if_true] at hv5 hl
        obtain ⟨m, hmm⟩ : ∃ m, (chs D I).length = m := ⟨_, rfl⟩
        rw [hmm] at hv5
        subst hv5
        have HRD := Lib.hid (read_any (chs D I) o e ho9 he9 A5 m c5 w1.heap.size hmm.symm (by have := HCL.out; omega) HUP.out HSZ.out w1 (Nat.le_refl _) hl)
        clear hm hmm hl
        go_wp2_with fail
        (with_reducible refine HRD.out.mono ?_)
        rintro e' w2 ⟨rfl, hb⟩
        have HB2 := Lib.hid (HB.out.trans (hb.mono HB.out.size))
        clear hb
        go_wp2
        go_ret2
        exact ⟨by rw [HE.out, HV.out] <;> rfl, HB2.out⟩
  · have HE := Lib.hid (show rdE D I z = ec D I by unfold rdE; rw [if_neg he])
    have HV := Lib.hid (show rdV D I z o nn = ⟨#[]⟩ by unfold rdV; rw [HE.out, if_neg he]; rfl)
    have q0 := bne0 he
    obtain ⟨x, hx⟩ : ∃ x, ec D I = x := ⟨_, rfl⟩
    rw [hx] at HCH HE q0 he
    have HNE := Lib.hid he
    clear he hx
    go_enter Tryz.func20, Tryz.ntmps20
    go_wp2_with fail
    (with_reducible refine HCH.out.mono ?_)
    rintro e w1 ⟨v, rfl, hm⟩
    rw [if_neg HNE.out] at hm
    have HB := Lib.hid hm.2
    obtain ⟨A5, c5, hv5, _⟩ := hm.ls enC_len
    subst hv5
    clear hm
    go_wp2
    go_ret2
    exact ⟨by rw [HE.out, HV.out] <;> rfl, HB.out⟩
set_option maxHeartbeats 1000000 in
theorem Write_any (D : List Itm) (I o : Nat) (hI : I < 4294967296) (ho : o < 4294967296) (s : ByteArray) (hs : s.size ≤ 9223372036854775807) (A : Option Addr) (n c B : Nat) (hn : n = D.length) (hc : n ≤ c) (hcm : c ≤ maxLen) (hlen : n ≤ 4398046511104) (w : World) (hB : B ≤ w.heap.size) (hD : Ls It.enc 2 w B A D) :
    Calls Tryz.prog 12 #[.slice A n c, .int .u32 I, .int .u32 o, .string s] w (ChPost w (wrE D I o s) (wrL (chs D I) I o s.data.toList)) := by
  have HCH := Lib.hid (chunksOf_any D I hI A n c B hn hc hcm hlen w hB hD)
  clear hD hB hn
  by_cases he : ec D I = 0
  · obtain ⟨hr, hI1⟩ := ec_zero he
    have HUP := Lib.hid (chs_up hr hI1 hI)
    have HSZ := Lib.hid (chs_sz hr hI1 hI)
    have HCL := Lib.hid (show (chs D I).length ≤ 512 from chs_few hr hI1 hI)
    rw [he] at HCH
    by_cases hz9 : 65536 < o + s.size
    · have HE := Lib.hid (show wrE D I o s = 1 by unfold wrE; rw [if_pos he, if_pos hz9])
      have d1 : decide ((65536 : Int) < (o : Int) + (s.size : Int)) = true := by rw [decide_eq_true_iff]; omega
      clear he hz9
      go_enter Tryz.func12, Tryz.ntmps12
      go_wp2_with fail
      (with_reducible refine HCH.out.mono ?_)
      rintro e w1 ⟨v, rfl, hm⟩
      have HB := Lib.hid hm.2
      obtain ⟨A5, c5, hv5, _⟩ := hm.ls enC_len
      subst hv5
      clear hm
      go_wp2
      go_ret2
      exact ⟨_, by rw [HE.out] <;> rfl, by rw [HE.out]; exact Mk.nil HB.out⟩
    · have HE := Lib.hid (show wrE D I o s = 0 by unfold wrE; rw [if_pos he, if_neg hz9])
      have d1 : decide ((65536 : Int) < (o : Int) + (s.size : Int)) = false := by rw [decide_eq_false_iff_not]; omega
      have ho9 : o ≤ 65536 := by omega
      clear he
      go_enter Tryz.func12, Tryz.ntmps12
      go_wp2_with fail
      (with_reducible refine HCH.out.mono ?_)
      rintro e' w1 ⟨v, rfl, hm⟩
      have HB := Lib.hid hm.2
      obtain ⟨A5, c5, hv5, _, _, hl⟩ := hm.ls enC_len
      simp only [if_true] at hv5 hl
      obtain ⟨m, hmm⟩ : ∃ m, (chs D I).length = m := ⟨_, rfl⟩
      rw [hmm] at hv5
      subst hv5
      have HRD := Lib.hid (written_any (chs D I) I hI1 hI o s (by omega) A5 m c5 w1.heap.size hmm.symm (by have := HCL.out; omega) HUP.out HSZ.out w1 (Nat.le_refl _) hl)
      clear hm hmm hl hz9
      go_wp2_with fail
      (with_reducible refine HRD.out.mono ?_)
      rintro e' w2 ⟨v2, rfl, hm2⟩
      have HM2 := Lib.hid (hm2.since HB.out)
      obtain ⟨A6, c6, hv6, _⟩ := hm2.ls Sc.enc_len
      subst hv6
      clear hm2
      go_wp2
      go_ret2
      exact ⟨_, by rw [HE.out] <;> rfl, by rw [HE.out, if_pos rfl]; exact HM2.out⟩
  · have HE := Lib.hid (show wrE D I o s = ec D I by unfold wrE; rw [if_neg he])
    have q0 := bne0 he
    obtain ⟨x, hx⟩ : ∃ x, ec D I = x := ⟨_, rfl⟩
    rw [hx] at HCH HE q0 he
    have HNE := Lib.hid he
    clear he hx
    go_enter Tryz.func12, Tryz.ntmps12
    go_wp2_with fail
    (with_reducible refine HCH.out.mono ?_)
    rintro e w1 ⟨v, rfl, hm⟩
    rw [if_neg HNE.out] at hm
    have HB := Lib.hid hm.2
    obtain ⟨A5, c5, hv5, _⟩ := hm.ls enC_len
    subst hv5
    clear hm
    go_wp2
    go_ret2
    exact ⟨_, by rw [HE.out] <;> rfl, by rw [HE.out, if_neg HNE.out]; exact Mk.nil HB.out⟩
end Go.Proofs.YtjkmfonngbendaaGreatDoor.Da
/- Plain mathematics of data's changes: what a chunk has behind them, byte by byte. No walk here. -/
namespace Go.Proofs.YtjkmfonngbendaaGreatDoor.Da
set_option linter.unusedVariables false
set_option linter.unusedSimpArgs false
open It (Itm Ch ckey key get app lastV get_app get_iff rt rt_iff rc UpK)
open Tm (cutL cutB cutL_snoc)
/-- a byte of a list; zero behind it -/
def zb (l : List UInt8) (j : Nat) : UInt8 := (l[j]?).getD 0
theorem cutL_split : ∀ r : List UInt8, ∃ m, r.reverse = cutL r.reverse ++ List.replicate m 0
  | [] => ⟨0, rfl⟩
  | b :: r => by
    rw [List.reverse_cons, cutL_snoc]
    by_cases h : b = 0
    · obtain ⟨m, e⟩ := cutL_split r
      refine ⟨m + 1, ?_⟩
      rw [if_pos h, h, List.replicate_succ', ← List.append_assoc, ← e]
    · exact ⟨0, by rw [if_neg h]; simp⟩
theorem cutL_end : ∀ r : List UInt8, (cutL r.reverse).getLast? ≠ some 0
  | [] => by decide
  | b :: r => by
    rw [List.reverse_cons, cutL_snoc]
    by_cases h : b = 0
    · rw [if_pos h]; exact cutL_end r
    · rw [if_neg h]; simpa using h
theorem cut_split (l : List UInt8) : ∃ m, l = cutL l ++ List.replicate m 0 := by have := cutL_split l.reverse; rwa [List.reverse_reverse] at this
theorem cut_end (l : List UInt8) : (cutL l).getLast? ≠ some 0 := by have := cutL_end l.reverse; rwa [List.reverse_reverse] at this
theorem cut_len (l : List UInt8) : (cutL l).length ≤ l.length := by
  obtain ⟨m, e⟩ := cut_split l
  have := congrArg List.length e
  rw [List.length_append] at this
  omega
theorem zb_out {l : List UInt8} {j : Nat} (h : l.length ≤ j) : zb l j = 0 := by unfold zb; rw [List.getElem?_eq_none h]; rfl
theorem zb_cut (l : List UInt8) (j : Nat) : zb (cutL l) j = zb l j := by
  obtain ⟨m, e⟩ := cut_split l
  have e2 : zb l j = zb (cutL l ++ List.replicate m 0) j := congrArg (fun x => zb x j) e
  rw [e2]
  unfold zb
  by_cases h : j < (cutL l).length
  · rw [List.getElem?_append_left h]
  · rw [List.getElem?_eq_none (by omega), List.getElem?_append_right (by omega), List.getElem?_replicate]
    split <;> rfl
theorem last_zb {l : List UInt8} (h : l.getLast? ≠ some 0) (h0 : 0 < l.length) : zb l (l.length - 1) ≠ 0 := by
  unfold zb
  rw [← List.getLast?_eq_getElem?]
  cases e : l.getLast? with
  | none => rw [List.getLast?_eq_none_iff] at e; rw [e] at h0; cases h0
  | some b => intro hb; rw [e] at h; exact h (by rw [show b = 0 from hb])
theorem zb_ext {u v : List UInt8} (hu : u.getLast? ≠ some 0) (hv : v.getLast? ≠ some 0) (h : ∀ j, zb u j = zb v j) : u = v := by
  have hl : u.length = v.length := by
    rcases Nat.lt_trichotomy u.length v.length with hlt | he | hlt
    · have := last_zb hv (by omega)
      rw [← h, zb_out (by omega)] at this
      exact absurd rfl this
    · exact he
    · have := last_zb hu (by omega)
      rw [h, zb_out (by omega)] at this
      exact absurd rfl this
  apply List.ext_getElem?
  intro j
  by_cases hj : j < u.length
  · have := h j
    unfold zb at this
    rw [List.getElem?_eq_getElem hj, List.getElem?_eq_getElem (by omega)] at this ⊢
    exact congrArg some this
  · rw [List.getElem?_eq_none (by omega), List.getElem?_eq_none (by omega)]
theorem bsl (s : ByteArray) : s.data.toList.length = s.size := by rw [Array.length_toList]; rfl
/-- what a change leaves of its key -/
def ov (c : Ch) : Option ByteArray := if c.h then some c.v else none
/-- a byte of what is kept -/
def bo (o : Option ByteArray) (j : Nat) : UInt8 := match o with
  | some v => zb v.data.toList j
  | none => 0
/-- as a Write leaves it -/
def CnO (o : Option ByteArray) : Prop := ∀ v, o = some v → v.size ≤ 128 ∧ 0 < v.size ∧ v.data.toList.getLast? ≠ some 0
theorem cnO_ext {o o' : Option ByteArray} (h : CnO o) (h' : CnO o') (hb : ∀ j, j < 128 → bo o j = bo o' j) : o = o' := by
  cases o with
  | none =>
    cases o' with
    | none => rfl
    | some v =>
      obtain ⟨h1, h2, h3⟩ := h' v rfl
      have h4 := last_zb h3 (by rw [bsl]; exact h2)
      rw [bsl] at h4
      have := hb (v.size - 1) (by omega)
      exact absurd this.symm h4
  | some u =>
    obtain ⟨g1, g2, g3⟩ := h u rfl
    cases o' with
    | none =>
      have h4 := last_zb g3 (by rw [bsl]; exact g2)
      rw [bsl] at h4
      exact absurd (hb (u.size - 1) (by omega)) h4
    | some v =>
      obtain ⟨h1, h2, h3⟩ := h' v rfl
      have : u.data.toList = v.data.toList := zb_ext g3 h3 fun j => by
        by_cases hj : j < 128
        · exact hb j hj
        · rw [zb_out (by rw [bsl]; omega), zb_out (by rw [bsl]; omega)]
      rw [ByteArray.ext (Array.toList_inj.1 this)]
theorem cutB_list (x : ByteArray) : (cutB x).data.toList = cutL x.data.toList := rfl
theorem bo_kp (k x : ByteArray) (j : Nat) : bo (ov (kpC k x)) j = zb x.data.toList j := by
  unfold ov kpC
  dsimp only
  by_cases h : 0 < (cutB x).size
  · rw [if_pos (decide_eq_true h)]
    exact zb_cut _ _
  · rw [if_neg (by simpa using h)]
    show (0 : UInt8) = _
    rw [← zb_cut, zb_out]
    have := bsl (cutB x)
    rw [cutB_list] at this
    omega
theorem cn_kp (k x : ByteArray) (h : x.size ≤ 128) : CnO (ov (kpC k x)) := by
  intro v hv
  unfold ov kpC at hv
  dsimp only at hv
  split at hv
  · rename_i h0
    cases hv
    refine ⟨?_, of_decide_eq_true h0, cut_end _⟩
    have h1 := bsl (cutB x)
    have h2 := bsl x
    have h3 := cut_len x.data.toList
    rw [cutB_list] at h1
    omega
  · cases hv
theorem zb_laid (t : List UInt8) (a : Nat) (b : List UInt8) (j : Nat) : zb (laidL t a b) j = if a ≤ j ∧ j < a + b.length then zb b (j - a) else zb t j := by
  unfold zb laidL
  have h1 : (cpy (List.replicate (max t.length (a + b.length)) 0) 0 (max t.length (a + b.length)) t).length = max t.length (a + b.length) := by
    rw [cpy_len (by rw [List.length_replicate]; omega), List.length_replicate]
  rw [cpy_get (by rw [h1]; omega)]
  by_cases h : a ≤ j ∧ j < a + b.length
  · rw [if_pos (by omega), if_pos h]
  · rw [if_neg (by omega), if_neg h, cpy_get (by rw [List.length_replicate]; omega)]
    by_cases h2 : j < t.length
    · rw [if_pos (by omega), Nat.sub_zero]
    · rw [if_neg (by omega), List.getElem?_replicate, List.getElem?_eq_none (by omega)]
      split <;> rfl
theorem zb_bts (c : Ck) {j : Nat} (hj : j < 128) : zb (btsB c).data.toList j = zb c.v.data.toList j := by
  unfold zb
  rw [btsB_list, List.getElem?_take, if_pos hj]
theorem bo_nw (c : Ck) (q : Nat) (part : List UInt8) {j : Nat} (hj : j < 128) : bo (ov (nwC c q part)) j = if q ≤ j ∧ j < q + part.length then zb part (j - q) else zb c.v.data.toList j := by
  unfold nwC
  rw [bo_kp]
  show zb (laidL _ _ _) j = _
  rw [zb_laid, zb_bts c hj]
theorem cn_nw (c : Ck) (q : Nat) (part : List UInt8) (h : q + part.length ≤ 128) : CnO (ov (nwC c q part)) := by
  unfold nwC
  refine cn_kp _ _ ?_
  show (laidL _ _ _).toArray.size ≤ 128
  rw [List.size_toArray, laidL_len]
  have := bts_le c
  omega
/-- the chunk of a number is what is kept by its key -/
theorem fnd_get {D : List Itm} {I k : Nat} (hr : rt D = true) (hI : 1 ≤ I) (hI2 : I < 4294967296) (hk : k < 512) :
    (fnd (chs D I) I k).k = cky I k ∧ ov (akC (fnd (chs D I) I k)) = get D (cky I k) ∧ ∀ j, zb (fnd (chs D I) I k).v.data.toList j = bo (get D (cky I k)) j := by
  have hu := chs_up hr hI hI2
  have hD := (rt_iff.1 hr).1
  cases hg : get D (cky I k) with
  | some v =>
    have hm : (⟨k, cky I k, true, v⟩ : Ck) ∈ chs D I := (mem_chs hI hI2 _).2 ⟨k, v, hk, (get_iff hD _ _).1 hg, rfl⟩
    obtain ⟨p, hp⟩ := List.mem_iff_getElem?.1 hm
    rw [fnd_yes hu hp rfl]
    exact ⟨rfl, rfl, fun j => rfl⟩
  | none =>
    rw [fnd_no (fun c hc e => by
      obtain ⟨k', v, hk', hm, rfl⟩ := (mem_chs hI hI2 c).1 hc
      have e : k' = k := e
      subst e
      rw [(get_iff hD _ _).2 hm] at hg
      cases hg)]
    exact ⟨rfl, rfl, fun j => by rw [zb_out (Nat.zero_le _)]; rfl⟩
theorem lastV_app (K : ByteArray) : ∀ (A B : List Ch) (o : Option ByteArray), lastV K o (A ++ B) = lastV K (lastV K o A) B
  | [], _, _ => rfl
  | c :: A, B, o => by rw [List.cons_append, lastV, lastV, lastV_app K A B]
/-- the chunks that a Write meets -/
def Tch (p L k : Nat) : Prop := 0 < L ∧ p / 128 ≤ k ∧ k * 128 < p + L
theorem ba_list {a b : ByteArray} : a.data.toList = b.data.toList ↔ a = b := ⟨fun h => ByteArray.ext (Array.toList_inj.1 h), fun h => by rw [h]⟩
/-- what a Write leaves: of keys that it does not meet, what was there; of those that it meets, its bytes, and the others as they were -/
theorem wr_last {D : List Itm} {I : Nat} (hr : rt D = true) (hI : 1 ≤ I) (hI2 : I < 4294967296) : ∀ (N : Nat) (b : List UInt8) (p : Nat), b.length ≤ N → p + b.length ≤ 65536 →
    (∀ K o, (∀ k, Tch p b.length k → K ≠ cky I k) → lastV K o (wrL (chs D I) I p b) = o) ∧
    ∀ k, Tch p b.length k → CnO (lastV (cky I k) (get D (cky I k)) (wrL (chs D I) I p b)) ∧
      ∀ j, j < 128 → bo (lastV (cky I k) (get D (cky I k)) (wrL (chs D I) I p b)) j = if p ≤ k * 128 + j ∧ k * 128 + j < p + b.length then zb b (k * 128 + j - p) else bo (get D (cky I k)) j := by
  intro N
  induction N with
  | zero =>
    intro b p hb _
    have : b = [] := List.eq_nil_of_length_eq_zero (by omega)
    subst this
    rw [wrL_nil]
    exact ⟨fun _ _ _ => rfl, fun k hk => by have := hk.1; simp at this⟩
  | succ N ih =>
    intro b p hb hp
    by_cases hbe : b = []
    · subst hbe
      rw [wrL_nil]
      exact ⟨fun _ _ _ => rfl, fun k hk => by have := hk.1; simp at this⟩
    have hb0 : 0 < b.length := List.length_pos_iff.2 hbe
    obtain ⟨k0, hk0⟩ : ∃ k, p / 128 = k := ⟨_, rfl⟩
    obtain ⟨q, hq⟩ : ∃ q, p % 128 = q := ⟨_, rfl⟩
    obtain ⟨n, hn⟩ : ∃ n, min b.length (128 - q) = n := ⟨_, rfl⟩
    obtain ⟨c, hc⟩ : ∃ c, fnd (chs D I) I k0 = c := ⟨_, rfl⟩
    have hk9 : k0 < 512 := by omega
    obtain ⟨f1, f2, f3⟩ := fnd_get hr hI hI2 hk9
    rw [hc] at f1 f2 f3
    rw [wrL_go (c := c) (q := q) (n := n) hbe (by rw [hk0]; exact hc) hq hn]
    obtain ⟨i1, i2⟩ := ih (b.drop n) (p + n) (by rw [List.length_drop]; omega) (by rw [List.length_drop]; omega)
    have hdl : (b.drop n).length = b.length - n := List.length_drop
    have htl : (b.take n).length = n := by rw [List.length_take]; omega
    -- the first chunk's change
    have first : ∀ K o, lastV K o (if eqH (nwC c q (b.take n)) (akC c) then [] else [nwC c q (b.take n)]) = if K = cky I k0 then (if eqH (nwC c q (b.take n)) (akC c) then o else ov (nwC c q (b.take n))) else o := by
      intro K o
      by_cases he : eqH (nwC c q (b.take n)) (akC c) = true
      · rw [if_pos he, if_pos he]
        show o = _
        split <;> rfl
      · rw [if_neg he, if_neg he]
        show (if ckey (nwC c q (b.take n)) = K.data.toList then ov (nwC c q (b.take n)) else o) = _
        have : ckey (nwC c q (b.take n)) = K.data.toList ↔ K = cky I k0 := by
          show c.k.data.toList = _ ↔ _
          rw [f1, ba_list]
          exact ⟨fun h => h.symm, fun h => h.symm⟩
        by_cases hk : K = cky I k0
        · rw [if_pos (this.2 hk), if_pos hk]
        · rw [if_neg (fun h => hk (this.1 h)), if_neg hk]
    -- the chunks of the rest
    have rest : ∀ k, Tch (p + n) (b.drop n).length k ↔ Tch p b.length k ∧ k ≠ k0 := by
      intro k
      unfold Tch
      rw [hdl]
      constructor
      · rintro ⟨h1, h2, h3⟩
        have : n = 128 - q := by omega
        exact ⟨⟨hb0, by omega, by omega⟩, by omega⟩
      · rintro ⟨⟨h1, h2, h3⟩, h4⟩
        exact ⟨by omega, by omega, by omega⟩
    refine ⟨fun K o hK => ?_, fun k hk => ?_⟩
    · rw [lastV_app, first, if_neg (hK k0 ⟨hb0, by omega, by omega⟩)]
      exact i1 K o fun k h => hK k ((rest k).1 h).1
    · have hkl : k < 512 := by have := hk.2.2; omega
      rw [lastV_app, first]
      by_cases hkk : k = k0
      · subst hkk
        rw [if_pos rfl]
        have e1 : (if eqH (nwC c q (b.take n)) (akC c) then get D (cky I k) else ov (nwC c q (b.take n))) = ov (nwC c q (b.take n)) := by
          by_cases he : eqH (nwC c q (b.take n)) (akC c) = true
          · rw [if_pos he, ← f2, eqH_iff.1 he]
          · rw [if_neg he]
        rw [e1, i1 _ _ (fun k' h e => by
          obtain ⟨h1, h2⟩ := (rest k').1 h
          have hk' : k' < 512 := by have := h1.2.2; omega
          exact h2 (cky_inj hI hI2 hI hI2 hkl hk' e).2.symm)]
        refine ⟨cn_nw _ _ _ (by rw [htl]; omega), fun j hj => ?_⟩
        rw [bo_nw c q _ hj, htl, f3]
        by_cases hin : q ≤ j ∧ j < q + n
        · rw [if_pos hin, if_pos (by omega)]
          unfold zb
          rw [List.getElem?_take, if_pos (by omega), show k * 128 + j - p = j - q by omega]
        · rw [if_neg hin, if_neg (by omega)]
      · rw [if_neg (fun e => hkk (cky_inj hI hI2 hI hI2 hkl hk9 e).2)]
        obtain ⟨g1, g2⟩ := i2 k ((rest k).2 ⟨hk, hkk⟩)
        have hr2 := ((rest k).2 ⟨hk, hkk⟩)
        have hr3 := hr2.1
        have hr4 := hr2.2.1
        rw [hdl] at hr3
        refine ⟨g1, fun j hj => ?_⟩
        rw [g2 j hj, hdl]
        have e1 : (p + n ≤ k * 128 + j ∧ k * 128 + j < p + n + (b.length - n)) ↔ (p ≤ k * 128 + j ∧ k * 128 + j < p + b.length) := by omega
        by_cases hin : p ≤ k * 128 + j ∧ k * 128 + j < p + b.length
        · rw [if_pos (e1.2 hin), if_pos hin]
          unfold zb
          rw [List.getElem?_drop, show n + (k * 128 + j - (p + n)) = k * 128 + j - p by omega]
        · rw [if_neg (fun h => hin (e1.1 h)), if_neg hin]
end Go.Proofs.YtjkmfonngbendaaGreatDoor.Da
/- Plain mathematics of data's changes: what is read behind a Write; a Write again. No walk here. -/
namespace Go.Proofs.YtjkmfonngbendaaGreatDoor.Da
set_option linter.unusedVariables false
set_option linter.unusedSimpArgs false
open It (Itm Ch ckey key get app lastV get_app get_iff rt rt_iff rc rc_iff UpK okC okI okKey rt_app up_app)
open Tm (cutL cutB cutL_snoc)
theorem cky_ok {I k : Nat} (hI : 1 ≤ I) (hk : k < 512) : okKey (cky I k) = true := by
  obtain ⟨_, _, h1, h2⟩ := Ino.wrK_pfx (kyC_ok hI hk)
  simp only [okKey, Bool.and_eq_true, decide_eq_true_eq]
  show _ ∧ (Ino.wrK (kyC I k)).size ≤ 48
  refine ⟨?_, by omega⟩
  show (Ino.wrK (kyC I k)).size ≠ 0
  omega
theorem okC_kp {k x : ByteArray} (hk : okKey k = true) (hx : x.size ≤ 160) : okC (kpC k x) = true := by
  have h1 := bsl (cutB x)
  have h2 := bsl x
  have h3 := cut_len x.data.toList
  rw [cutB_list] at h1
  have hs : (cutB x).size ≤ 160 := by omega
  unfold okC kpC
  dsimp only
  rw [hk, decide_eq_true hs]
  by_cases h : 0 < (cutB x).size
  · rw [decide_eq_true h]; rfl
  · rw [decide_eq_false h]
    have : (cutB x).toList = [] := se3 (by omega)
    rw [this]; rfl
theorem wr_ok {D : List Itm} {I : Nat} (hr : rt D = true) (hI : 1 ≤ I) (hI2 : I < 4294967296) : ∀ (N : Nat) (b : List UInt8) (p : Nat), b.length ≤ N → p + b.length ≤ 65536 → ∀ x ∈ wrL (chs D I) I p b, okC x = true := by
  intro N
  induction N with
  | zero =>
    intro b p hb _ x hx
    have : b = [] := List.eq_nil_of_length_eq_zero (by omega)
    subst this
    rw [wrL_nil] at hx
    cases hx
  | succ N ih =>
    intro b p hb hp x hx
    by_cases hbe : b = []
    · subst hbe
      rw [wrL_nil] at hx
      cases hx
    have hb0 : 0 < b.length := List.length_pos_iff.2 hbe
    obtain ⟨n, hn⟩ : ∃ n, min b.length (128 - p % 128) = n := ⟨_, rfl⟩
    have hk9 : p / 128 < 512 := by omega
    obtain ⟨f1, _, _⟩ := fnd_get hr hI hI2 hk9
    rw [wrL_go hbe rfl rfl hn] at hx
    rcases List.mem_append.1 hx with hx | hx
    · split at hx
      · cases hx
      · have hx := List.mem_singleton.1 hx
        subst hx
        unfold nwC
        refine okC_kp (by rw [f1]; exact cky_ok hI hk9) ?_
        show (laidL _ _ _).toArray.size ≤ 160
        rw [List.size_toArray, laidL_len, List.length_take]
        have := bts_le (fnd (chs D I) I (p / 128))
        omega
    · exact ih (b.drop n) (p + n) (by rw [List.length_drop]; omega) (by rw [List.length_drop]; omega) x hx
/-- a byte that is read is one that is kept -/
theorem btC_get {D : List Itm} {I : Nat} (hr : rt D = true) (hI : 1 ≤ I) (hI2 : I < 4294967296) {p : Nat} (hp : p < 65536) : btC (chs D I) p = bo (get D (cky I (p / 128))) (p % 128) := by
  have h3 := (fnd_get hr hI hI2 (show p / 128 < 512 by omega)).2.2 (p % 128)
  rw [← h3]
  unfold btC fnd
  cases hf : (chs D I).find? fun c => decide (c.n = p / 128) with
  | none => exact (zb_out (Nat.zero_le _)).symm
  | some c => exact zb_bts c (by omega)
theorem fnd_off {D : List Itm} {I k : Nat} (hI : 1 ≤ I) (hI2 : I < 4294967296) (h : (fnd (chs D I) I k).h = false) : (fnd (chs D I) I k).v = ByteArray.empty := by
  unfold fnd at h ⊢
  cases hf : (chs D I).find? fun c => decide (c.n = k) with
  | none => rfl
  | some c =>
    rw [hf] at h
    obtain ⟨k', v, _, _, rfl⟩ := (mem_chs hI hI2 c).1 (List.mem_of_find?_eq_some hf)
    cases h
section
variable {D : List Itm} {I p : Nat} {b : List UInt8}
/-- what is there behind a Write -/
def wrD (D : List Itm) (I p : Nat) (b : List UInt8) : List Itm := app D (wrL (chs D I) I p b)
theorem wrD_rt (hr : rt D = true) (hI : 1 ≤ I) (hI2 : I < 4294967296) (hp : p + b.length ≤ 65536) : rc (wrL (chs D I) I p b) = true ∧ rt (wrD D I p b) = true := by
  have h := rc_iff.2 (wr_ok hr hI hI2 b.length b p (Nat.le_refl _) hp)
  exact ⟨h, rt_app hr h⟩
theorem wrD_get (hr : rt D = true) (K : ByteArray) : get (wrD D I p b) K = lastV K (get D K) (wrL (chs D I) I p b) := get_app K _ (rt_iff.1 hr).1
theorem wrD_far (hr : rt D = true) (hI : 1 ≤ I) (hI2 : I < 4294967296) (hp : p + b.length ≤ 65536) {K : ByteArray} (hK : ∀ k, Tch p b.length k → K ≠ cky I k) : get (wrD D I p b) K = get D K := by
  rw [wrD_get hr]; exact (wr_last hr hI hI2 b.length b p (Nat.le_refl _) hp).1 K _ hK
theorem wrD_cn (hr : rt D = true) (hI : 1 ≤ I) (hI2 : I < 4294967296) (hp : p + b.length ≤ 65536) {k : Nat} (hk : Tch p b.length k) : CnO (get (wrD D I p b) (cky I k)) := by
  rw [wrD_get hr]; exact ((wr_last hr hI hI2 b.length b p (Nat.le_refl _) hp).2 k hk).1
/-- each byte behind a Write -/
theorem wrD_bo (hr : rt D = true) (hI : 1 ≤ I) (hI2 : I < 4294967296) (hp : p + b.length ≤ 65536) {k j : Nat} (hk : k < 512) (hj : j < 128) :
    bo (get (wrD D I p b) (cky I k)) j = if p ≤ k * 128 + j ∧ k * 128 + j < p + b.length then zb b (k * 128 + j - p) else bo (get D (cky I k)) j := by
  by_cases ht : Tch p b.length k
  · rw [wrD_get hr]; exact ((wr_last hr hI hI2 b.length b p (Nat.le_refl _) hp).2 k ht).2 j hj
  · rw [wrD_far hr hI hI2 hp (fun k' h e => ht (by
      have hk' : k' < 512 := by have := h.2.2; omega
      rw [(cky_inj hI hI2 hI hI2 hk hk' e).2]; exact h)), if_neg]
    rintro ⟨h1, h2⟩
    exact ht ⟨by omega, by omega, by omega⟩
theorem wrD_other (hr : rt D = true) (hI : 1 ≤ I) (hI2 : I < 4294967296) (hp : p + b.length ≤ 65536) {J k : Nat} (hJ : 1 ≤ J) (hJ2 : J < 4294967296) (hne : J ≠ I) (hk : k < 512) : get (wrD D I p b) (cky J k) = get D (cky J k) :=
  wrD_far hr hI hI2 hp fun k' h e => hne (cky_inj hJ hJ2 hI hI2 hk (by have := h.2.2; omega) e).1
/-- what is read behind a Write -/
theorem wrD_bt (hr : rt D = true) (hI : 1 ≤ I) (hI2 : I < 4294967296) (hp : p + b.length ≤ 65536) {P : Nat} (hP : P < 65536) :
    btC (chs (wrD D I p b) I) P = if p ≤ P ∧ P < p + b.length then zb b (P - p) else btC (chs D I) P := by
  rw [btC_get (wrD_rt hr hI hI2 hp).2 hI hI2 hP, btC_get hr hI hI2 hP, wrD_bo hr hI hI2 hp (by omega) (by omega), show P / 128 * 128 + P % 128 = P by omega]
theorem wrD_bt_other (hr : rt D = true) (hI : 1 ≤ I) (hI2 : I < 4294967296) (hp : p + b.length ≤ 65536) {J P : Nat} (hJ : 1 ≤ J) (hJ2 : J < 4294967296) (hne : J ≠ I) (hP : P < 65536) : btC (chs (wrD D I p b) J) P = btC (chs D J) P := by
  rw [btC_get (wrD_rt hr hI hI2 hp).2 hJ hJ2 hP, btC_get hr hJ hJ2 hP, wrD_other hr hI hI2 hp hJ hJ2 hne (by omega)]
theorem ov_same {c : Ck} {x : ByteArray} (h : ov (kpC c.k x) = ov (akC c)) (hv : c.h = false → c.v = ByteArray.empty) : kpC c.k x = akC c := by
  obtain ⟨n, k, h', v⟩ := c
  unfold ov akC at h
  unfold kpC akC
  unfold kpC at h
  dsimp only at h hv ⊢
  cases h' with
  | true =>
    rw [if_pos rfl] at h
    split at h
    · rename_i h0
      rw [h0, Option.some.inj h]
    · cases h
  | false =>
    rw [hv rfl]
    split at h
    · cases h
    · rename_i h0
      have h0 : ¬ 0 < (cutB x).size := by simpa using h0
      rw [decide_eq_false h0, Ino.size0 (s := cutB x) (by omega)]
/-- a Write of what is there -/
theorem wr_again (hI : 1 ≤ I) (hI2 : I < 4294967296) {m : List Itm} (hr : rt m = true) : ∀ (N : Nat) (b : List UInt8) (p : Nat), b.length ≤ N → p + b.length ≤ 65536 →
    (∀ k, Tch p b.length k → CnO (get m (cky I k)) ∧ ∀ j, j < 128 → p ≤ k * 128 + j → k * 128 + j < p + b.length → bo (get m (cky I k)) j = zb b (k * 128 + j - p)) → wrL (chs m I) I p b = [] := by
  intro N
  induction N with
  | zero =>
    intro b p hb _ _
    have : b = [] := List.eq_nil_of_length_eq_zero (by omega)
    subst this
    exact wrL_nil _ _ _
  | succ N ih =>
    intro b p hb hp h
    by_cases hbe : b = []
    · subst hbe; exact wrL_nil _ _ _
    have hb0 : 0 < b.length := List.length_pos_iff.2 hbe
    obtain ⟨k0, hk0⟩ : ∃ k, p / 128 = k := ⟨_, rfl⟩
    obtain ⟨q, hq⟩ : ∃ q, p % 128 = q := ⟨_, rfl⟩
    obtain ⟨n, hn⟩ : ∃ n, min b.length (128 - q) = n := ⟨_, rfl⟩
    obtain ⟨c, hc⟩ : ∃ c, fnd (chs m I) I k0 = c := ⟨_, rfl⟩
    have hk9 : k0 < 512 := by omega
    obtain ⟨f1, f2, f3⟩ := fnd_get hr hI hI2 hk9
    have f4 := fnd_off (D := m) (k := k0) hI hI2
    rw [hc] at f1 f2 f3 f4
    rw [wrL_go (c := c) (q := q) (n := n) hbe (by rw [hk0]; exact hc) hq hn]
    have hdl : (b.drop n).length = b.length - n := List.length_drop
    have htl : (b.take n).length = n := by rw [List.length_take]; omega
    obtain ⟨g1, g2⟩ := h k0 ⟨hb0, by omega, by omega⟩
    have hsame : nwC c q (b.take n) = akC c := by
      have ho : ov (nwC c q (b.take n)) = ov (akC c) := by
        rw [f2]
        refine cnO_ext (cn_nw _ _ _ (by rw [htl]; omega)) g1 fun j hj => ?_
        rw [bo_nw c q _ hj, htl, f3]
        by_cases hin : q ≤ j ∧ j < q + n
        · rw [if_pos hin, g2 j hj (by omega) (by omega)]
          unfold zb
          rw [List.getElem?_take, if_pos (by omega), show k0 * 128 + j - p = j - q by omega]
        · rw [if_neg hin]
      exact ov_same ho f4
    rw [if_pos (eqH_iff.2 hsame), List.nil_append]
    refine ih (b.drop n) (p + n) (by rw [hdl]; omega) (by rw [hdl]; omega) fun k hk => ?_
    unfold Tch at hk
    rw [hdl] at hk ⊢
    obtain ⟨h1, h2⟩ := h k ⟨hb0, by omega, by omega⟩
    refine ⟨h1, fun j hj ha hb' => ?_⟩
    rw [h2 j hj (by omega) (by omega)]
    unfold zb
    rw [List.getElem?_drop, show n + (k * 128 + j - (p + n)) = k * 128 + j - p by omega]
theorem wrD_again (hr : rt D = true) (hI : 1 ≤ I) (hI2 : I < 4294967296) (hp : p + b.length ≤ 65536) : wrL (chs (wrD D I p b) I) I p b = [] :=
  wr_again hI hI2 (wrD_rt hr hI hI2 hp).2 b.length b p (Nat.le_refl _) hp fun k hk => ⟨wrD_cn hr hI hI2 hp hk, fun j hj h1 h2 => by
    rw [wrD_bo hr hI hI2 hp (by have := hk.2.2; omega) hj, if_pos ⟨h1, h2⟩]⟩
/-- two lists that have the same by each key -/
theorem get_ext {A B : List Itm} (hA : rt A = true) (hB : rt B = true) (h : ∀ K, get A K = get B K) : A = B :=
  It.up_ext (rt_iff.1 hA).1 (rt_iff.1 hB).1 fun x => by
    have h1 := get_iff (rt_iff.1 hA).1 x.k x.v
    have h2 := get_iff (rt_iff.1 hB).1 x.k x.v
    rw [h] at h1
    exact h1.symm.trans h2
end
/-- two Writes that do not meet, in whichever order -/
theorem wr_apart {D : List Itm} {I a b : Nat} {s t : List UInt8} (hr : rt D = true) (hI : 1 ≤ I) (hI2 : I < 4294967296) (hab : a + s.length ≤ b) (hb : b + t.length ≤ 65536) : wrD (wrD D I a s) I b t = wrD (wrD D I b t) I a s := by
  have ha : a + s.length ≤ 65536 := by omega
  have r1 := (wrD_rt (b := s) hr hI hI2 ha).2
  have r2 := (wrD_rt (b := t) hr hI hI2 hb).2
  refine get_ext (wrD_rt r1 hI hI2 hb).2 (wrD_rt r2 hI hI2 ha).2 fun K => ?_
  by_cases hk : ∃ k, k < 512 ∧ K = cky I k
  · obtain ⟨k, hk, rfl⟩ := hk
    by_cases ht : Tch b t.length k
    · by_cases hs : Tch a s.length k
      · refine cnO_ext (wrD_cn r1 hI hI2 hb ht) (wrD_cn r2 hI hI2 ha hs) fun j hj => ?_
        rw [wrD_bo r1 hI hI2 hb hk hj, wrD_bo hr hI hI2 ha hk hj, wrD_bo r2 hI hI2 ha hk hj, wrD_bo hr hI hI2 hb hk hj]
        by_cases h1 : b ≤ k * 128 + j ∧ k * 128 + j < b + t.length
        · rw [if_pos h1, if_neg (by omega), if_pos h1]
        · rw [if_neg h1, if_neg h1]
      · have far : ∀ {E : List Itm}, rt E = true → get (wrD E I a s) (cky I k) = get E (cky I k) := fun hE => wrD_far hE hI hI2 ha fun k' h e => hs (by rw [(cky_inj hI hI2 hI hI2 hk (by have := h.2.2; omega) e).2]; exact h)
        rw [far r2]
        refine cnO_ext (wrD_cn r1 hI hI2 hb ht) (wrD_cn hr hI hI2 hb ht) fun j hj => ?_
        rw [wrD_bo r1 hI hI2 hb hk hj, wrD_bo hr hI hI2 hb hk hj, far hr]
    · have far : ∀ {E : List Itm}, rt E = true → get (wrD E I b t) (cky I k) = get E (cky I k) := fun hE => wrD_far hE hI hI2 hb fun k' h e => ht (by rw [(cky_inj hI hI2 hI hI2 hk (by have := h.2.2; omega) e).2]; exact h)
      rw [far r1]
      by_cases hs : Tch a s.length k
      · refine cnO_ext (wrD_cn hr hI hI2 ha hs) (wrD_cn r2 hI hI2 ha hs) fun j hj => ?_
        rw [wrD_bo hr hI hI2 ha hk hj, wrD_bo r2 hI hI2 ha hk hj, far hr]
      · have far2 : ∀ {E : List Itm}, rt E = true → get (wrD E I a s) (cky I k) = get E (cky I k) := fun hE => wrD_far hE hI hI2 ha fun k' h e => hs (by rw [(cky_inj hI hI2 hI hI2 hk (by have := h.2.2; omega) e).2]; exact h)
        rw [far2 hr, far2 r2, far hr]
  · have f : ∀ {E : List Itm} {p : Nat} {u : List UInt8}, rt E = true → p + u.length ≤ 65536 → get (wrD E I p u) K = get E K := fun hE hp => wrD_far hE hI hI2 hp fun k h e => hk ⟨k, by have := h.2.2; omega, e⟩
    rw [f r1 hb, f hr ha, f r2 ha, f hr hb]
end Go.Proofs.YtjkmfonngbendaaGreatDoor.Da
/- How long lists are behind changes; a Write's and a Cut's changes are few. -/
namespace Go.Proofs.YtjkmfonngbendaaGreatDoor.It
set_option linter.unusedVariables false
open Ar Rg St
theorem don_len (c : Ch) : ∀ (D : List Itm) (put : Bool), (donL c put D).length ≤ D.length + 1
  | [], put => by cases put <;> simp [donL]
  | x :: r, true => by
    have := don_len c r true
    rw [donL_true]
    exact Nat.le_trans (List.length_filter_le _ _) (by simp)
  | x :: r, false => by
    rw [donL]
    by_cases h : lt (key x) (ckey c) = true
    · rw [h]
      have := don_len c r false
      have h2 : (if key x = ckey c then [] else [x]).length ≤ 1 := by split <;> simp
      simp only [Bool.not_true, Bool.and_false, Bool.false_eq_true, if_false, List.nil_append, List.length_append, Bool.or_false, List.length_cons]
      omega
    · have h : lt (key x) (ckey c) = false := by simpa using h
      rw [h, show (false || !false) = true from rfl, donL_true]
      have h1 := List.length_filter_le (fun x => decide (key x ≠ ckey c)) r
      have h2 : (if key x = ckey c then [] else [x]).length ≤ 1 := by split <;> simp
      simp only [Bool.not_false, Bool.and_true, if_true, List.length_append, List.length_cons, List.length_nil]
      omega
theorem app_len : ∀ (C : List Ch) (D : List Itm), (app D C).length ≤ D.length + C.length
  | [], D => by simp [app]
  | c :: C, D => by
    rw [app_cons]
    have h1 := app_len C (don c D)
    have h2 : (don c D).length ≤ D.length + 1 := don_len c D _
    simp only [List.length_cons]
    omega
end Go.Proofs.YtjkmfonngbendaaGreatDoor.It
namespace Go.Proofs.YtjkmfonngbendaaGreatDoor.Da
set_option linter.unusedVariables false
open It (Itm Ch app app_len)
theorem wrL_len (D : List Ck) (I : Nat) : ∀ (N : Nat) (b : List UInt8) (p : Nat), b.length ≤ N → (wrL D I p b).length ≤ b.length := by
  intro N
  induction N with
  | zero =>
    intro b p hb
    have : b = [] := List.eq_nil_of_length_eq_zero (by omega)
    subst this
    rw [wrL_nil]; exact Nat.le_refl _
  | succ N ih =>
    intro b p hb
    by_cases hbe : b = []
    · subst hbe; rw [wrL_nil]; exact Nat.le_refl _
    have hb0 : 0 < b.length := List.length_pos_iff.2 hbe
    obtain ⟨n, hn⟩ : ∃ n, min b.length (128 - p % 128) = n := ⟨_, rfl⟩
    rw [wrL_go hbe rfl rfl hn, List.length_append]
    have h1 := ih (b.drop n) (p + n) (by rw [List.length_drop]; omega)
    rw [List.length_drop] at h1
    have h2 : (if eqH (nwC (fnd D I (p / 128)) (p % 128) (b.take n)) (akC (fnd D I (p / 128))) then ([] : List Ch) else [nwC (fnd D I (p / 128)) (p % 128) (b.take n)]).length ≤ 1 := by split <;> simp
    omega
theorem wrD_len (D : List Itm) (I p : Nat) (b : List UInt8) : (wrD D I p b).length ≤ D.length + b.length := by
  have h1 := app_len (wrL (chs D I) I p b) D
  have h2 := wrL_len (chs D I) I b.length b p (Nat.le_refl _)
  unfold wrD
  omega
theorem ctL_len (D : List Ck) (z : Nat) : (ctL D z).length ≤ D.length := by
  unfold ctL
  induction D with
  | nil => exact Nat.le_refl _
  | cons c D ih =>
    rw [List.flatMap_cons, List.length_append, List.length_cons]
    have := ctC_len z c
    omega
end Go.Proofs.YtjkmfonngbendaaGreatDoor.Da
/- A volume with one file, whose bytes are written: what it has, and when it is right. No walk of code here. -/
namespace Go.Proofs.YtjkmfonngbendaaGreatDoor.Di
set_option linter.unusedVariables false
set_option linter.unusedSimpArgs false
set_option maxRecDepth 100000
open Ino
open It (Itm Ch app get get_iff rt rc rt_iff itm ckey key mem_don don app_append UpK)
open Da (cky kyC wrL wrD chs wrD_bo wrD_far wrD_cn wrD_rt zb bo CnO Tch kyC_lim kyC_ok cky_parse mem_chs)
open Pk (be bs bs_size be_length)
def nF (S : Nat) : In := ⟨2, 0, 1, S, ⟨#[]⟩⟩
theorem nF_ok {S : Nat} (h : S ≤ 65536) : okI (nF S) = true := okI_iff.2 (.inr (.inl ⟨rfl, Nat.le_refl _, h, rfl⟩))
theorem nF_lim {S : Nat} (h : S < 4294967296) : (nF S).lim := ⟨show (2 : Nat) < 256 by decide, show (0 : Nat) < 65536 by decide, show (1 : Nat) < 4294967296 by decide, h⟩
def kE : Ky := ⟨2, 1, nA, 0⟩
theorem kE_ok : okK kE = true := by decide
theorem kE_lim : kE.lim := ⟨by decide, by decide, by decide⟩
def cI (S : Nat) : Ch := ⟨wrK (kI 2), true, wrI (nF S)⟩
def cE : Ch := ⟨wrK kE, true, bs (be 4 2)⟩
/-- the volume -/
def fD (o : Nat) (s : List UInt8) (S : Nat) : List Itm := app L0 (wrL [] 2 o s ++ [cI S, cE])
theorem rt_0 : rt L0 = true := (rgt_iff.1 rgt_0).rt
theorem k2_lim : (kI 2).lim := kI_lim (by decide)
theorem k2_ok : okK (kI 2) = true := kI_ok (by decide)
theorem ck_ne {k : Nat} {q : Ky} (hk : k < 512) (ql : q.lim) (qo : okK q = true) (h3 : q.K ≠ 3) : cky 2 k ≠ wrK q := by
  intro e
  have h1 := (cky_parse (I := 2) (by decide) (by decide) hk).1
  rw [e, (deK_back ql qo).1] at h1
  exact h3 (by rw [h1]; rfl)
theorem chs_0 : chs L0 2 = [] := by
  refine List.eq_nil_iff_forall_not_mem.2 fun c hc => ?_
  obtain ⟨k, v, hk, hm, _⟩ := (mem_chs (by decide) (by decide) c).1 hc
  have e : (⟨cky 2 k, v⟩ : Itm) = rootI := by simpa [L0] using hm
  exact ck_ne hk kR_lim kR_ok (by decide) (congrArg Itm.k e)
theorem fD_eq (o : Nat) (s : List UInt8) (S : Nat) : fD o s S = don cE (don (cI S) (wrD L0 2 o s)) := by
  unfold fD wrD
  rw [chs_0, app_append]
  rfl
theorem get_0 {k : Nat} (hk : k < 512) : get L0 (cky 2 k) = none := by
  cases h : get L0 (cky 2 k) with
  | none => rfl
  | some v =>
    have hm := (get_iff (rt_iff.1 rt_0).1 _ _).1 h
    have e : (⟨cky 2 k, v⟩ : Itm) = rootI := by simpa [L0] using hm
    exact absurd (congrArg Itm.k e) (ck_ne hk kR_lim kR_ok (by decide))
theorem itk {x : Itm} {k : ByteArray} (h : key x = k.data.toList) : x.k = k := ByteArray.ext (Array.toList_inj.1 h)
theorem wr_ne {a b : Ky} (la : a.lim) (lb : b.lim) (ha : okK a = true) (hb : okK b = true) (h : a ≠ b) {v : ByteArray} (hc : (wrK a).data.toList = (wrK b).data.toList) : False := h (wrK_inj la lb ha hb (ByteArray.ext (Array.toList_inj.1 hc)))
section
variable {o S : Nat} {s : List UInt8}
theorem wr_rt (hp : o + s.length ≤ 65536) : rc (wrL [] 2 o s) = true ∧ rt (wrD L0 2 o s) = true := by
  have h := wrD_rt (D := L0) (I := 2) (p := o) (b := s) rt_0 (by decide) (by decide) hp
  rw [chs_0] at h
  exact h
theorem sz_key {q : Ky} (h : okK q = true) : It.okKey (wrK q) = true := by
  have := wrK_pfx h
  unfold It.okKey
  rw [decide_eq_true (show (wrK q).size ≠ 0 by omega), decide_eq_true (show (wrK q).size ≤ 48 by omega)]
  rfl
theorem sz_I : (wrI (nF S)).size = 13 := by rw [wrI_size (nF S) (show (⟨#[]⟩ : ByteArray).size ≤ 65535 by decide)]; rfl
theorem sz_E : (bs (be 4 2)).size = 4 := by rw [bs_size, be_length]
theorem rc_two : rc [cI S, cE] = true := by
  unfold It.rc
  rw [List.all_cons, List.all_cons, List.all_nil]
  unfold It.okC cI cE
  dsimp only
  rw [sz_key k2_ok, sz_key kE_ok, sz_I, sz_E]
  rfl
theorem rc_all (hp : o + s.length ≤ 65536) : rc (wrL [] 2 o s ++ [cI S, cE]) = true := by
  have h1 := (wr_rt hp).1
  have h2 := rc_two (S := S)
  unfold It.rc at h1 h2 ⊢
  rw [List.all_append, h1, h2]; rfl
theorem fD_rt (hp : o + s.length ≤ 65536) : rt (fD o s S) = true := It.rt_app rt_0 (rc_all hp)
theorem fD_all (hp : o + s.length ≤ 65536) {x : Itm} (hx : x ∈ fD o s S) : x = rootI ∨ x = itm (cI S) ∨ x = itm cE ∨ ∃ k, k < 512 ∧ x.k = cky 2 k ∧ get (wrD L0 2 o s) (cky 2 k) = some x.v ∧ Tch o s.length k := by
  rw [fD_eq, mem_don, mem_don] at hx
  rcases hx with ⟨⟨hx, _⟩ | ⟨_, hx⟩, _⟩ | ⟨_, hx⟩
  · have hu := (rt_iff.1 (wr_rt hp).2).1
    have hg := (get_iff hu x.k x.v).2 hx
    by_cases ht : ∃ k, Tch o s.length k ∧ x.k = cky 2 k
    · obtain ⟨k, h1, h2⟩ := ht
      have hk : k < 512 := by have := h1.2.2; omega
      exact .inr (.inr (.inr ⟨k, hk, h2, by rw [← h2]; exact hg, h1⟩))
    · rw [wrD_far rt_0 (by decide) (by decide) hp (fun k h1 h2 => ht ⟨k, h1, h2⟩)] at hg
      have hm := (get_iff (rt_iff.1 rt_0).1 _ _).1 hg
      left
      simpa [L0] using hm
  · exact .inr (.inl hx)
  · exact .inr (.inr (.inl hx))
theorem k1_ne : (kR : Ky) ≠ kI 2 ∧ (kR : Ky) ≠ kE ∧ (kI 2 : Ky) ≠ kE := ⟨fun e => absurd (show (1 : Nat) = 2 from congrArg Ky.I e) (by decide), fun e => absurd (show (1 : Nat) = 2 from congrArg Ky.K e) (by decide), fun e => absurd (show (1 : Nat) = 2 from congrArg Ky.K e) (by decide)⟩
theorem fD_one : itm cE ∈ fD o s S := by rw [fD_eq, mem_don]; exact .inr ⟨rfl, rfl⟩
theorem fD_two : itm (cI S) ∈ fD o s S := by
  rw [fD_eq, mem_don, mem_don]
  exact .inl ⟨.inr ⟨rfl, rfl⟩, fun e => wr_ne k2_lim kE_lim k2_ok kE_ok k1_ne.2.2 (v := ⟨#[]⟩) e⟩
theorem fD_root (hp : o + s.length ≤ 65536) : rootI ∈ fD o s S := by
  rw [fD_eq, mem_don, mem_don]
  refine .inl ⟨.inl ⟨?_, fun e => wr_ne kR_lim k2_lim kR_ok k2_ok k1_ne.1 (v := ⟨#[]⟩) e⟩, fun e => wr_ne kR_lim kE_lim kR_ok kE_ok k1_ne.2.1 (v := ⟨#[]⟩) e⟩
  have hu := (rt_iff.1 (wr_rt hp).2).1
  have h0 : get L0 rootI.k = some rootI.v := (get_iff (rt_iff.1 rt_0).1 _ _).2 (by simp [L0])
  rw [← wrD_far (b := s) (p := o) rt_0 (by decide) (by decide) hp (K := rootI.k) (fun k h1 h2 => ck_ne (by have := h1.2.2; omega) kR_lim kR_ok (by decide) h2.symm)] at h0
  exact (get_iff hu _ _).1 h0
theorem fD_ck (hp : o + s.length ≤ 65536) {k : Nat} (hk : k < 512) {v : ByteArray} (hg : get (wrD L0 2 o s) (cky 2 k) = some v) : (⟨cky 2 k, v⟩ : Itm) ∈ fD o s S := by
  rw [fD_eq, mem_don, mem_don]
  refine .inl ⟨.inl ⟨(get_iff (rt_iff.1 (wr_rt hp).2).1 _ _).1 hg, fun e => ?_⟩, fun e => ?_⟩
  · exact ck_ne hk k2_lim k2_ok (by decide) (itk (x := ⟨cky 2 k, v⟩) e)
  · exact ck_ne hk kE_lim kE_ok (by decide) (itk (x := ⟨cky 2 k, v⟩) e)
theorem lz_no {v : ByteArray} (h : v.data.toList.getLast? ≠ some 0) (h0 : 0 < v.size) : lz v = false := by
  have hl : v.data.toList.length = v.size := Da.bsl v
  unfold lz
  rw [beq_eq_false_iff_ne]
  intro e
  rw [ByteArray.toList_eq, ByteArray.data_extract, Array.toList_extract, List.extract_eq_take_drop] at e
  have e2 := congrArg (fun l => l[0]?) e
  simp only [List.getElem?_take, List.getElem?_drop, List.getElem?_cons_zero] at e2
  rw [if_pos (by omega)] at e2
  apply h
  rw [List.getLast?_eq_getElem?, hl]
  simpa using e2
theorem cE_e : okX (itm cE) = true ∧ numOf (itm cE).v = 2 := by
  have h1 : numOf (itm cE).v = 2 := by decide +kernel
  refine ⟨?_, h1⟩
  unfold okX okP
  have e3 : (ptOf (itm cE)).k = kE := (deK_back kE_lim kE_ok).1
  rw [show deKE (itm cE).k = 0 from (deK_back kE_lim kE_ok).2, e3, if_neg (show ¬ kE.K = 1 by decide), if_pos (show kE.K = 2 from rfl)]
  rw [show (ptOf (itm cE)).v = (itm cE).v from rfl, h1]
  decide +kernel
theorem fD_OneF (hp : o + s.length ≤ 65536) (hS : S ≤ 65536) : OneF (fD o s S) S nA (itm cE) where
  rt := fD_rt hp
  root := ⟨rootI, fD_root hp, rfl, (deI_back nR_lim nR_ok).2, by rw [show rootI.v = wrI nR from rfl, (deI_back nR_lim nR_ok).1]; rfl⟩
  two := ⟨itm (cI S), fD_two, rfl, (deI_back (nF_lim (by omega)) (nF_ok hS)).2, by
    rw [show (itm (cI S)).v = wrI (nF S) from rfl, (deI_back (nF_lim (by omega)) (nF_ok hS)).1]; exact ⟨rfl, rfl, rfl⟩⟩
  ent := ⟨fD_one, (deK_back kE_lim kE_ok).2, (deK_back kE_lim kE_ok).1, cE_e.2, cE_e.1⟩
  all := by
    intro x hx
    rcases fD_all hp hx with h | h | h | ⟨k, h1, h2, h3, h4⟩
    · exact .inl (by rw [h]; rfl)
    · exact .inr (.inl (by rw [h]; rfl))
    · exact .inr (.inr (.inl h))
    · have hc := wrD_cn (I := 2) rt_0 (by decide) (by decide) hp h4
      obtain ⟨c1, c2, c3⟩ := hc x.v h3
      have hq := cky_parse (I := 2) (by decide) (by decide) h1
      exact .inr (.inr (.inr ⟨k, h1, by rw [h2]; exact hq.2, by rw [h2]; exact hq.1, by omega, c1, lz_no c3 c2⟩))
end
/-- where the last byte that is not zero ends, of the first n ones -/
def endN (o : Nat) (s : List UInt8) : Nat → Nat
  | 0 => 0
  | n + 1 => if zb s n ≠ 0 then o + n + 1 else endN o s n
theorem endN_le {o S : Nat} {s : List UInt8} : ∀ n, endN o s n ≤ S ↔ ∀ i, i < n → zb s i ≠ 0 → o + i + 1 ≤ S
  | 0 => ⟨fun _ i hi => absurd hi (Nat.not_lt_zero _), fun _ => Nat.zero_le _⟩
  | n + 1 => by
    have ih := endN_le (o := o) (S := S) (s := s) n
    unfold endN
    by_cases h : zb s n ≠ 0
    · rw [if_pos h]
      exact ⟨fun h1 i hi _ => by omega, fun h1 => h1 n (by omega) h⟩
    · rw [if_neg h, ih]
      refine ⟨fun h1 i hi hz => ?_, fun h1 i hi hz => h1 i (by omega) hz⟩
      rcases Nat.lt_or_ge i n with h2 | h2
      · exact h1 i h2 hz
      · obtain rfl : i = n := by omega
        exact absurd hz h
theorem fD_right {o S : Nat} {s : List UInt8} (hp : o + s.length ≤ 65536) (hS : S ≤ 65536) : Right (fD o s S) ↔ endN o s s.length ≤ S := by
  rw [(fD_OneF hp hS).right, endN_le]
  constructor
  · intro h i hi hz
    obtain ⟨k, hk⟩ : ∃ k, (o + i) / 128 = k := ⟨_, rfl⟩
    obtain ⟨j, hj⟩ : ∃ j, (o + i) % 128 = j := ⟨_, rfl⟩
    have hk9 : k < 512 := by omega
    have hj9 : j < 128 := by omega
    have hb := wrD_bo (b := s) (p := o) rt_0 (I := 2) (by decide) (by decide) hp hk9 hj9
    rw [if_pos (by omega), show k * 128 + j - o = i by omega] at hb
    cases hg : get (wrD L0 2 o s) (cky 2 k) with
    | none =>
      rw [hg] at hb
      exact absurd hb.symm hz
    | some v =>
      rw [hg] at hb
      have hv : j < v.size := by
        rcases Nat.lt_or_ge j v.size with h1 | h1
        · exact h1
        · have h2 : bo (some v) j = 0 := Da.zb_out (by rw [Da.bsl]; exact h1)
          rw [h2] at hb
          exact absurd hb.symm hz
      have h1 := h ⟨cky 2 k, v⟩ (fD_ck hp hk9 hg) k (cky_parse (by decide) (by decide) hk9).1
      have h1 : k * 128 + v.size ≤ S := h1
      omega
  · intro h x hx k hk
    rcases fD_all hp hx with e | e | e | ⟨k', h1, h2, h3, h4⟩
    · rw [e] at hk
      have e2 : deK rootI.k = kR := (deK_back kR_lim kR_ok).1
      rw [e2] at hk; cases hk
    · rw [e] at hk
      have e2 : deK (itm (cI S)).k = kI 2 := (deK_back k2_lim k2_ok).1
      rw [e2] at hk; cases hk
    · rw [e] at hk
      have e2 : deK (itm cE).k = kE := (deK_back kE_lim kE_ok).1
      rw [e2] at hk; cases hk
    · rw [h2, (cky_parse (I := 2) (by decide) (by decide) h1).1] at hk
      obtain rfl : k' = k := congrArg Ky.C hk
      obtain ⟨c1, c2, c3⟩ := wrD_cn rt_0 (by decide) (by decide) hp h4 x.v h3
      have hb := wrD_bo (b := s) (p := o) rt_0 (I := 2) (by decide) (by decide) hp h1 (j := x.v.size - 1) (by omega)
      rw [h3, get_0 h1] at hb
      have hz := Da.last_zb c3 (by rw [Da.bsl]; exact c2)
      rw [Da.bsl] at hz
      have hb : zb x.v.data.toList (x.v.size - 1) = _ := hb
      rw [hb] at hz
      by_cases hin : o ≤ k' * 128 + (x.v.size - 1) ∧ k' * 128 + (x.v.size - 1) < o + s.length
      · rw [if_pos hin] at hz
        have := h _ (by omega) hz
        omega
      · rw [if_neg hin] at hz
        exact absurd rfl hz
/-- what Check and Walk answer there -/
theorem fD_ck9 {o S : Nat} {s : List UInt8} (hp : o + s.length ≤ 65536) (hS : S ≤ 65536) : ckE (fD o s S) = (if endN o s s.length ≤ S then 0 else 9) ∧ (endN o s s.length ≤ S → wlk (fD o s S) true [nA] = (2, 0)) := by
  have h := fD_right (o := o) (S := S) (s := s) hp hS
  constructor
  · unfold ckE
    by_cases hc : endN o s s.length ≤ S
    · rw [if_pos hc, rgt_iff.2 (h.2 hc)]; rfl
    · rw [if_neg hc]
      cases hr : rgt (fD o s S) with
      | false => rfl
      | true => exact absurd (h.1 (rgt_iff.1 hr)) hc
  · intro hc
    unfold wlk
    rw [rgt_iff.2 (h.2 hc), if_pos rfl]
    exact (fD_OneF hp hS).walk true
theorem fD_len (o : Nat) (s : List UInt8) (S : Nat) : (fD o s S).length ≤ s.length + 3 ∧ (wrL [] 2 o s).length ≤ s.length := by
  have h1 := Da.wrL_len [] 2 s.length s o (Nat.le_refl _)
  have h2 := It.app_len (wrL [] 2 o s ++ [cI S, cE]) L0
  rw [List.length_append] at h2
  refine ⟨?_, h1⟩
  unfold fD
  have e1 : L0.length = 1 := rfl
  have e2 : [cI S, cE].length = 2 := rfl
  omega
end Go.Proofs.YtjkmfonngbendaaGreatDoor.Di
/- The walk of TopSized: it answers true. -/
namespace Go.Proofs.YtjkmfonngbendaaGreatDoor.Di
set_option linter.unusedVariables false
set_option linter.unusedSimpArgs false
set_option maxRecDepth 100000
open Go.ChangeShapes Go.WideShapes Go.ChangeAt Go.RowKit
open BigFrame
open Ar Rg
open Ino
open It (Itm Ch MkI MkC rt rc app er apply_any itm catC)
open Da (wrE wrL rdE rdV rdC chs ec Write_any Read_any ChPost zb)
open Pk (be bs)
open Ph (en1)
open Hk (Row kc first row_below)
variable {tK tS : TypeId}
theorem ls_two {w : World} {g : Nat} {x y : Ch} {t : TypeId} {f : Nat × Nat} (h : w.heap[g]? = some (.cells #[.string x.k, .bool x.h, .string x.v, .string y.k, .bool y.h, .string y.v] t f)) : Ls Sc.enc 3 w w.heap.size (some ⟨g, 0, none⟩) [x, y] := fun i z hz => by
  refine ⟨g, 0, rfl, (Array.getElem?_eq_some_iff.1 h).1, fun a v hv => ?_⟩
  have hv2 : (Sc.enc z)[a]? = some v := by simpa using hv
  have ha := (List.getElem?_eq_some_iff.1 hv2).1
  rw [Sc.enc_len] at ha
  match i, hz with
  | 0, hz =>
    cases hz
    refine (cell_of_row _ _ (0 + 0 * 3 + a) _ _ _ h).trans ?_
    match a, ha with
    | 0, _ => exact hv2
    | 1, _ => exact hv2
    | 2, _ => exact hv2
  | 1, hz =>
    cases hz
    refine (cell_of_row _ _ (0 + 1 * 3 + a) _ _ _ h).trans ?_
    match a, ha with
    | 0, _ => exact hv2
    | 1, _ => exact hv2
    | 2, _ => exact hv2
  | i + 2, hz => cases hz
theorem zb_at (s : ByteArray) (i : Nat) (h : i < s.size) : zb s.data.toList i = s[i] := by
  unfold zb
  rw [List.getElem?_eq_getElem (by rw [Da.bsl]; exact h)]
  rfl
theorem ec_nil : ec [] 2 = 0 := by decide
theorem wrE_nil (o : Nat) (s : ByteArray) : wrE [] 2 o s = if 65536 < o + s.size then 1 else 0 := by
  unfold wrE
  rw [if_pos ec_nil]
theorem num2 (w : World) : Calls Tryz.prog 15 #[.int .u64 2, .int .i64 4] w fun e w' => e = .returned (.tuple #[.string (bs (be 4 2)), .int .i64 0]) ∧ Below w.heap.size w w' := by
  have h := Pk.number_any 2 4 w (by decide)
  rw [show Pk.nB 2 4 = bs (be 4 2) from nB_of (n := 2) (k := 4) (by decide) (by decide) (by decide), show Pk.nE 2 4 = 0 by decide] at h
  exact h
theorem encF (S : Nat) (hS : S < 4294967296) (w : World) : Calls Tryz.prog 13 #[.agg #[.int .u8 2, .int .u16 0, .int .u32 1, .int .u32 S, .string ⟨#[]⟩]] w fun e w' => e = .returned (.tuple #[.string (enI (nF S)), .int .i64 (if S ≤ 65536 then 0 else 4)]) ∧ Below w.heap.size w w' := by
  have h := encode_in (nF S) (nF_lim hS) w
  have e : chI (nF S) = if S ≤ 65536 then 0 else 4 := by
    by_cases hc : S ≤ 65536
    · rw [if_pos hc]; exact (chI_yes (nF_ok hc)).1
    · rw [if_neg hc]
      refine (chI_no ?_).1
      cases hk : okI (nF S) with
      | false => rfl
      | true =>
        rcases okI_iff.1 hk with h | h | h
        · exact absurd h.1 (show ¬ (2 : Nat) = 1 by decide)
        · exact absurd h.2.2.1 hc
        · exact absurd h.1 (show ¬ (2 : Nat) = 3 by decide)
  rw [e] at h
  exact h
theorem key2 (w : World) : Calls Tryz.prog 14 #[.agg #[.int .u8 1, .int .u32 2, .string ⟨#[]⟩, .int .u32 0]] w fun e w' => e = .returned (.tuple #[.string (wrK (kI 2)), .int .i64 0]) ∧ Below w.heap.size w w' := by
  have h := key_in (kI 2) k2_lim w
  rw [(chK_yes k2_ok).1, (chK_yes k2_ok).2] at h
  exact h
theorem keyA (w : World) : Calls Tryz.prog 14 #[.agg #[.int .u8 2, .int .u32 1, .string ⟨#[97]⟩, .int .u32 0]] w fun e w' => e = .returned (.tuple #[.string (wrK kE), .int .i64 0]) ∧ Below w.heap.size w w' := by
  have h := key_in kE kE_lim w
  rw [(chK_yes kE_ok).1, (chK_yes kE_ok).2] at h
  exact h
/-- Apply's answer there -/
theorem app_fD {o S : Nat} {s : List UInt8} (hp : o + s.length ≤ 65536) : er (rt L0 && rc (wrL [] 2 o s ++ [cI S, cE])) = 0 ∧ (if (rt L0 && rc (wrL [] 2 o s ++ [cI S, cE])) = true then app L0 (wrL [] 2 o s ++ [cI S, cE]) else []) = fD o s S := by
  rw [rt_0, rc_all hp]
  exact ⟨rfl, rfl⟩
set_option maxHeartbeats 8000000 in
theorem topSized_walk (w : World) (s : ByteArray) (hs : s.size ≤ maxLen) (o S : Nat) (ho : o < 4294967296) (hS : S < 4294967296)
    (hR : Row w 1 tK kc) (hR0 : Row w 0 tS first.list) :
    Calls Tryz.prog 3 #[.string s, .int .u32 o, .int .u32 S] w fun e w' => e = .returned (.bool true) ∧ Below w.heap.size w w' := by
  have RK := Lib.hid hR
  have RF := Lib.hid hR0
  have HW := Lib.hid (show ∀ w : World, Calls Tryz.prog 12 #[.slice none 0 0, .int .u32 2, .int .u32 o, .string s] w (ChPost w (if 65536 < o + s.size then 1 else 0) (wrL [] 2 o s.data.toList)) from fun w => by
    have h := Write_any [] 2 o (by decide) ho s (by unfold maxLen at hs; omega) none 0 0 0 rfl (Nat.le_refl _) (by decide) (by decide) w (Nat.zero_le _) Ls.nil
    rw [wrE_nil] at h
    exact h)
  have HE := Lib.hid (fun w => encF S hS w)
  clear hR hR0
  by_cases hp9 : 65536 < o + s.size
  · rw [if_pos hp9] at HW
    unfold ChPost at HW
    clear hp9 hs
    obtain ⟨z, hz⟩ : ∃ z : Int, (if S ≤ 65536 then 0 else 4) = z := ⟨_, rfl⟩
    obtain ⟨ev, hev⟩ : ∃ z, enI (nF S) = z := ⟨_, rfl⟩
    rw [hz, hev] at HE
    clear hz hev
    go_enter Tryz.func3, Tryz.ntmps3
    go_wp2_with fail
    (with_reducible refine (Be.begins_any _ RK.out RF.out).mono ?_)
    rintro e w1 ⟨rfl, hb1⟩
    have B1 := Lib.hid hb1
    clear hb1 RK RF
    go_wp2_with fail
    (with_reducible refine (HW.out _).mono ?_)
    rintro e w2 ⟨v, rfl, hm⟩
    have B2 := Lib.hid (B1.out.trans (hm.2.mono B1.out.size))
    clear hm B1
    go_wp2_with fail
    (with_reducible refine (HE.out _).mono ?_)
    rintro e w3 ⟨rfl, hb3⟩
    have B3 := Lib.hid (B2.out.trans (hb3.mono B2.out.size))
    clear hb3 B2
    go_wp2
    go_ret
    exact ⟨rfl, B3.out⟩
  rw [if_neg hp9] at HW
  unfold ChPost at HW
  by_cases hc : S ≤ 65536
  · have hz9 : s.size ≤ 65536 := by omega
    have hp : o + s.data.toList.length ≤ 65536 := by rw [Da.bsl]; omega
    have hk9 := fD_ck9 hp hc
    have hl9 := fD_len o s.data.toList S
    have ha9 := app_fD (S := S) hp
    have hsl : s.data.toList.length = s.size := Da.bsl s
    rw [hsl] at hk9 hl9
    obtain ⟨F, hF⟩ : ∃ F, fD o s.data.toList S = F := ⟨_, rfl⟩
    obtain ⟨D, hD⟩ : ∃ D, wrL [] 2 o s.data.toList = D := ⟨_, rfl⟩
    obtain ⟨n, hn⟩ : ∃ n, s.size = n := ⟨_, rfl⟩
    rw [hF, hn] at hk9 hl9
    rw [hD] at hl9 ha9 HW
    rw [hF] at ha9
    rw [if_pos hc] at HE
    rw [show enI (nF S) = wrI (nF S) from (chI_yes (nF_ok hc)).2] at HE
    obtain ⟨vi, hvi⟩ : ∃ v, wrI (nF S) = v := ⟨_, rfl⟩
    rw [hvi] at HE
    have HCI := Lib.hid (show cI S = ⟨wrK (kI 2), true, vi⟩ by rw [← hvi]; rfl)
    have HCE := Lib.hid (show cE = ⟨wrK kE, true, bs (be 4 2)⟩ from rfl)
    have HK2 := Lib.hid key2
    have HKA := Lib.hid keyA
    have HNU := Lib.hid num2
    obtain ⟨k2, hk2⟩ : ∃ v, wrK (kI 2) = v := ⟨_, rfl⟩
    obtain ⟨kA, hkA⟩ : ∃ v, wrK kE = v := ⟨_, rfl⟩
    obtain ⟨nu, hnu⟩ : ∃ v, bs (be 4 2) = v := ⟨_, rfl⟩
    rw [hk2] at HCI HK2
    rw [hkA] at HCE HKA
    rw [hnu] at HCE HNU
    have HD2 := Lib.hid (show D.length + 2 ≤ 65538 by omega)
    have HF9 := Lib.hid (show F.length ≤ 65539 by omega)
    have HA := Lib.hid (fun (w : World) A A' m c' (hm : m = (D ++ [cI S, cE]).length) (h : ItA w A 1 L0) (h' : Ls Sc.enc 3 w w.heap.size A' (D ++ [cI S, cE])) => apply_any L0 (D ++ [cI S, cE]) A A' 1 1 m c' w.heap.size w.heap.size rfl (Nat.le_refl _) (by decide) hm (by decide) (by rw [hm, List.length_append]; have := HD2.out; simp only [List.length_cons, List.length_nil]; omega) w (Nat.le_refl _) (Nat.le_refl _) h.2.2 h')
    rw [ha9.1, ha9.2] at HA
    have HS9 := Lib.hid (show ∀ (w : World) (n5 : Nat) (A : Option Addr) (c : Nat), n5 = F.length → n5 ≤ c → c ≤ maxLen → Ls It.enc 2 w w.heap.size A F → Calls Tryz.prog 20 #[.slice A n5 c, .int .u32 2, .int .u32 S, .int .u32 0, .int .u32 S] w fun e w' => ∃ r : ByteArray, r.size = S ∧ e = .returned (.tuple #[.string r, .int .i64 0]) ∧ Below w.heap.size w w' from fun w n5 A c e1 e2 e3 h => by
      have h := Read_any F 2 S 0 S (by decide) hS (by decide) hS A n5 c w.heap.size e1 e2 e3 (by rw [e1]; have := HF9.out; omega) w (Nat.le_refl _) h
      have he : rdE F 2 S = 0 := by
        unfold rdE
        have : ec F 2 = 0 := by
          rw [← hF]
          unfold ec
          rw [fD_rt hp]
          rfl
        rw [if_pos this, if_neg (by omega)]
      rw [he] at h
      refine h.mono ?_
      rintro e w' ⟨rfl, hb⟩
      refine ⟨_, ?_, rfl, hb⟩
      unfold rdV
      rw [if_pos he]
      show (rdC (chs F 2) 0 (min (0 + S) S)).toArray.size = S
      rw [List.size_toArray, Da.rdC_len]
      omega)
    have HN := Lib.hid hn
    obtain ⟨E, hE⟩ : ∃ E, endN o s.data.toList n = E := ⟨_, rfl⟩
    have HEE := Lib.hid hE
    rw [hE] at hk9
    have HEN := Lib.hid (fun i => show endN o s.data.toList (i + 1) = if zb s.data.toList i ≠ 0 then o + i + 1 else endN o s.data.toList i from rfl)
    have HE9 := Lib.hid (show ∀ i, i ≤ n → endN o s.data.toList i ≤ 65536 from fun i hi => (endN_le i).2 (fun j hj _ => by omega))
    have HKC := Lib.hid hk9
    have hnn : n ≤ 65536 := by omega
    have hon : o + n ≤ 65536 := by omega
    clear hk9 hl9 ha9 hE hF hD hvi hk2 hkA hnu hz9 hp9 hp hsl
    go_enter Tryz.func3, Tryz.ntmps3
    go_wp2_with fail
    (with_reducible refine (Be.begins_any _ RK.out RF.out).mono ?_)
    rintro e w1 ⟨rfl, hb1⟩
    have B1 := Lib.hid hb1
    clear hb1 RK RF
    go_wp2_with fail
    (with_reducible refine (HW.out _).mono ?_)
    rintro e w2 ⟨v, rfl, hm⟩
    rw [if_pos trivial] at hm
    have B2 := Lib.hid (B1.out.trans (hm.2.mono B1.out.size))
    have HM := Lib.hid hm
    clear hm HW
    go_wp2_with fail
    (with_reducible refine (HE.out _).mono ?_)
    rintro e w3 ⟨rfl, hb3⟩
    have B3 := Lib.hid (B2.out.trans (hb3.mono B2.out.size))
    replace HM := Lib.hid (HM.out.go hb3)
    clear hb3 B2 HE
    go_wp2_with fail
    (with_reducible refine (HK2.out _).mono ?_)
    rintro e w4 ⟨rfl, hb4⟩
    have B4 := Lib.hid (B3.out.trans (hb4.mono B3.out.size))
    replace HM := Lib.hid (HM.out.go hb4)
    clear hb4 B3 HK2
    go_wp2_with fail
    (with_reducible refine (HKA.out _).mono ?_)
    rintro e w5 ⟨rfl, hb5⟩
    have B5 := Lib.hid (B4.out.trans (hb5.mono B4.out.size))
    replace HM := Lib.hid (HM.out.go hb5)
    clear hb5 B4 HKA
    go_wp2_with fail
    (with_reducible refine (HNU.out _).mono ?_)
    rintro e w6 ⟨rfl, hb6⟩
    have B6 := Lib.hid (B5.out.trans (hb6.mono B5.out.size))
    replace HM := Lib.hid (HM.out.go hb6)
    clear hb6 B5 HNU
    go_wp2_with (at_builtin; refine catC (HM.out.alloc _) [cI S, cE] _ 2 2 rfl (by rw [HCI.out, HCE.out]; exact ls_two (heap_alloc_new _ _)) (by have := HD2.out; omega) rfl _ _ rfl rfl rfl ?_; intro v7 w7 hM7 hG7; replace HM := Lib.hid hM7; clear hM7 hG7)
    have B7 := Lib.hid (show Below w.heap.size w w7 from (HM.out.since (show Below w.heap.size w w1 from B1.out)).2)
    obtain ⟨A7, c7, hv, h71, h72, hl7⟩ := HM.out.ls Sc.enc_len
    obtain ⟨m7, hm7⟩ : ∃ m, (D ++ [cI S, cE]).length = m := ⟨_, rfl⟩
    rw [hm7] at hv
    subst hv
    have L7 := Lib.hid hl7
    have M7 := Lib.hid hm7
    clear HM h71 h72 hl7 hm7 B1 B6
    go_wp2_with fail
    (with_reducible refine (New_any _).mono ?_)
    rintro e w8 ⟨A8, rfl, hi8, hb8⟩
    have B8 := Lib.hid (B7.out.trans (hb8.mono B7.out.size))
    have I8 := Lib.hid hi8
    have L8 := Lib.hid ((L7.out.below hb8).more hb8.size)
    clear hi8 hb8 B7 L7
    go_wp2_with fail
    (with_reducible refine (HA.out _ _ _ _ _ M7.out.symm I8.out L8.out).mono ?_)
    rintro e w9 ⟨v, rfl, hm⟩
    have B9 := Lib.hid (B8.out.trans (hm.2.mono B8.out.size))
    obtain ⟨A9, c9, hv, h91, h92, hl9⟩ := hm.ls It.enc_len
    obtain ⟨n9, hn9⟩ : ∃ m, F.length = m := ⟨_, rfl⟩
    rw [hn9] at hv h91
    subst hv
    have L9 := Lib.hid hl9
    have N9 := Lib.hid hn9
    have C91 := Lib.hid h91
    have C92 := Lib.hid h92
    clear hm hl9 hn9 h91 h92 B8 L8 I8 HA M7
    go_wp2_with fail
    go_loopw [19, 83] (fun a b wr => ∃ i : Nat, i ≤ n ∧ b = .int .i64 i ∧ a = .int .u64 (endN o s.data.toList i : Nat) ∧ Hid (Below w9.heap.size w9 wr)) (fun a b _ => n - (intOf b).toNat)
    case atStart => exact ⟨0, Nat.zero_le _, by go_num, by rfl, Lib.hid (Below.refl _ _)⟩
    case round =>
      obtain ⟨wo, rfl⟩ : ∃ wo : World, wo = wr := ⟨_, rfl⟩
      obtain ⟨i, hi, rfl, rfl, hat⟩ := hrel
      have hle := HE9.out i hi
      by_cases hlt : i < n
      · have hx : i < s.size := by omega
        have hz := zb_at s i hx
        obtain ⟨b, hb⟩ : ∃ b, s[i] = b := ⟨_, rfl⟩
        have hN1 := HEN.out i
        rw [hz, hb] at hN1
        by_cases hb0 : b = 0
        · have HN1 := Lib.hid (show endN o s.data.toList (i + 1) = endN o s.data.toList i by rw [hN1, if_neg (fun h => h hb0)])
          have q1 : ((b.toNat : Int) != 0) = false := by rw [hb0]; rfl
          clear hN1 hz hb0
          subst hb
          go_wp2_with fail
          exact ⟨⟨i + 1, by omega, by go_num, by rw [HN1.out], hat⟩, by simp [intOf] <;> omega⟩
        · have HN1 := Lib.hid (show endN o s.data.toList (i + 1) = o + i + 1 by rw [hN1, if_pos hb0])
          have q1 : ((b.toNat : Int) != 0) = true := by
            rw [bne_iff_ne]
            intro h
            exact hb0 (UInt8.toNat_inj.1 (by simpa using h))
          clear hN1 hz hb0
          subst hb
          go_wp2_with fail
          exact ⟨⟨i + 1, by omega, by go_num, by rw [HN1.out]; go_num, hat⟩, by simp [intOf] <;> omega⟩
      · obtain rfl : i = n := by omega
        have HEI := HEE.out
        have BW := Lib.hid (B9.out.trans (hat.out.mono B9.out.size))
        have LW := Lib.hid ((L9.out.below hat.out).more hat.out.size)
        rw [HEI] at hle ⊢
        clear HEI HEN HE9 HEE hat B9 L9
        have HIT := Lib.hid (show ItA wo A9 n9 F from ⟨N9.out.symm, by have := N9.out; have := HF9.out; omega, LW.out⟩)
        by_cases hES : E ≤ S
        · obtain ⟨r1, r2⟩ := HKC.out
          rw [if_pos hES] at r1
          have R2 := Lib.hid (r2 hES)
          have q1 : decide (E ≤ S) = true := decide_eq_true hES
          have q2 : decide ((E : Int) ≤ (S : Int)) = true := by rw [decide_eq_true_iff]; omega
          have HC1 := Lib.hid (Check_any c9 HIT.out)
          rw [r1] at HC1
          clear r1 r2 HKC hES
          go_wp2_with fail
          (with_reducible refine HC1.out.mono ?_)
          rintro e w10 ⟨rfl, hb10⟩
          have B10 := Lib.hid (BW.out.trans (hb10.mono BW.out.size))
          have I10 := Lib.hid (HIT.out.go hb10)
          clear hb10 BW HIT HC1
          go_wp2_with fail
          have hb11 : Below w10.heap.size w10 (w10.alloc (.cells #[.string ⟨#[97]⟩] 9)) := (Below.refl _ _).alloc (Nat.le_refl _) _
          have I11 := Lib.hid (I10.out.go hb11)
          have B11 := Lib.hid (B10.out.trans (hb11.mono B10.out.size))
          have W11 := Lib.hid (Walk_any c9 true I11.out (nm_one w10 nA (by unfold maxLen; decide) 9))
          rw [R2.out] at W11
          clear hb11 I10 B10
          with_reducible refine W11.out.mono ?_
          rintro e w12 ⟨rfl, hb12⟩
          have B12 := Lib.hid (B11.out.trans (hb12.mono B11.out.size))
          have L12 := Lib.hid (show Ls It.enc 2 w12 w12.heap.size A9 F from (I11.out.go hb12).2.2)
          clear hb12 W11 I11 B11 R2
          go_wp2_with fail
          (with_reducible refine (HS9.out _ _ _ _ N9.out.symm C91.out C92.out L12.out).mono ?_)
          rintro e w13 ⟨r, hr, rfl, hb13⟩
          have B13 := Lib.hid (B12.out.trans (hb13.mono B12.out.size))
          clear hb13 B12 L12
          go_wp2
          go_ret
          exact ⟨rfl, B13.out⟩
        · obtain ⟨r1, _⟩ := HKC.out
          rw [if_neg hES] at r1
          have q1 : decide (E ≤ S) = false := decide_eq_false hES
          have q2 : decide ((E : Int) ≤ (S : Int)) = false := by rw [decide_eq_false_iff_not]; omega
          have HC1 := Lib.hid (Check_any c9 HIT.out)
          rw [r1] at HC1
          clear r1 HKC hES
          go_wp2_with fail
          (with_reducible refine HC1.out.mono ?_)
          rintro e w10 ⟨rfl, hb10⟩
          have B10 := Lib.hid (BW.out.trans (hb10.mono BW.out.size))
          clear hb10 BW HIT HC1
          go_wp2
          go_ret
          exact ⟨rfl, B10.out⟩
  · rw [if_neg hc] at HE
    obtain ⟨ev, hev⟩ : ∃ z, enI (nF S) = z := ⟨_, rfl⟩
    rw [hev] at HE
    clear hp9 hs hev hc
    go_enter Tryz.func3, Tryz.ntmps3
    go_wp2_with fail
    (with_reducible refine (Be.begins_any _ RK.out RF.out).mono ?_)
    rintro e w1 ⟨rfl, hb1⟩
    have B1 := Lib.hid hb1
    clear hb1 RK RF
    go_wp2_with fail
    (with_reducible refine (HW.out _).mono ?_)
    rintro e w2 ⟨v, rfl, hm⟩
    have B2 := Lib.hid (B1.out.trans (hm.2.mono B1.out.size))
    clear hm B1
    go_wp2_with fail
    (with_reducible refine (HE.out _).mono ?_)
    rintro e w3 ⟨rfl, hb3⟩
    have B3 := Lib.hid (B2.out.trans (hb3.mono B2.out.size))
    clear hb3 B2
    go_wp2
    go_ret
    exact ⟨rfl, B3.out⟩
end Go.Proofs.YtjkmfonngbendaaGreatDoor.Di
