/- Plain mathematics of nodes as bytes: what is written is taken again, and what is taken without being short was written so. No word of the program's code here. -/
import Derived.Test.YtjkmfonngbendaaGreatDoorMath
import Derived.Test.YtjkmfonngbendaaGreatDoorCrc
import Derived.Test.YtjkmfonngbendaaGreatDoorItB
namespace Go.Proofs.YtjkmfonngbendaaGreatDoor.Nd
set_option linter.unusedVariables false
open Pk (be num be_length num_be num_lt num_snoc crc)
theorem be_num (l : List UInt8) : be l.length (num l) = l := by
  have key : ∀ r : List UInt8, be r.reverse.length (num r.reverse) = r.reverse := by
    intro r
    induction r with
    | nil => rfl
    | cons b r ih =>
      rw [List.reverse_cons, num_snoc, List.length_append, List.length_singleton, be]
      have hb := b.toNat_lt
      rw [show (num r.reverse * 256 + b.toNat) / 256 = num r.reverse by omega, ih]
      congr 2
      apply UInt8.toNat_inj.1
      rw [UInt8.toNat_ofNat']
      omega
  have := key l.reverse
  rwa [List.reverse_reverse] at this
abbrev S := List UInt8 × Bool
theorem S_eta {s : S} (h : s.2 = false) : s = (s.1, false) := by cases s; cases h; rfl
/-- one thing, as it is taken and written -/
structure Cod (α : Type) where
  tk : S → α × S
  wr : α → List UInt8
  ok : α → Prop
structure Cod.Good {α : Type} (C : Cod α) : Prop where
  back : ∀ x r b, C.ok x → C.tk (C.wr x ++ r, b) = (x, (r, b))
  stay : ∀ s, s.2 = true → (C.tk s).2.2 = true
  fwd : ∀ l, (C.tk (l, false)).2.2 = false → C.ok (C.tk (l, false)).1 ∧ l = C.wr (C.tk (l, false)).1 ++ (C.tk (l, false)).2.1
def tkNum (w : Nat) (s : S) : Nat × S := if w ≤ s.1.length then (num (s.1.take w), (s.1.drop w, s.2)) else (0, ([], true))
def tkBytes (n : Nat) (s : S) : List UInt8 × S := if s.1.length < n then ([], ([], true)) else (s.1.take n, (s.1.drop n, s.2))
def tkTxt (s : S) : List UInt8 × S := tkBytes (tkNum 1 s).1 (tkNum 1 s).2
def tkHash (s : S) : List UInt8 × S := ((tkBytes 32 s).1 ++ List.replicate (32 - (tkBytes 32 s).1.length) 0, (tkBytes 32 s).2)
def cNum (w : Nat) : Cod Nat := ⟨tkNum w, be w, fun n => n < 256 ^ w⟩
def cBytes (n : Nat) : Cod (List UInt8) := ⟨tkBytes n, fun l => l, fun l => l.length = n⟩
def cTxt : Cod (List UInt8) := ⟨tkTxt, fun t => be 1 t.length ++ t, fun t => t.length < 256⟩
def cHash : Cod (List UInt8) := ⟨tkHash, fun l => l, fun l => l.length = 32⟩
theorem num_good (w : Nat) : (cNum w).Good where
  back x r b h := by
    have hl : (be w x).length = w := be_length w x
    show tkNum w (be w x ++ r, b) = _
    unfold tkNum
    dsimp only
    rw [if_pos (by rw [List.length_append]; omega), List.take_append_of_le_length (by omega), List.drop_append_of_le_length (by omega), List.take_of_length_le (by omega), List.drop_of_length_le (by omega), num_be w x h, List.nil_append]
  stay s h := by
    show (tkNum w s).2.2 = true
    unfold tkNum
    split
    · exact h
    · rfl
  fwd l h := by
    have h' : (tkNum w (l, false)).2.2 = false := h
    show (tkNum w (l, false)).1 < 256 ^ w ∧ l = be w (tkNum w (l, false)).1 ++ (tkNum w (l, false)).2.1
    unfold tkNum at h' ⊢
    by_cases hw : w ≤ l.length
    · rw [if_pos hw] at h' ⊢
      have ht : (l.take w).length = w := by rw [List.length_take]; omega
      have h1 := num_lt (l.take w)
      have h2 := be_num (l.take w)
      rw [ht] at h1 h2
      exact ⟨h1, by dsimp only; rw [h2, List.take_append_drop]⟩
    · rw [if_neg hw] at h'
      cases h'
theorem bytes_good (n : Nat) : (cBytes n).Good where
  back x r b h := by
    have hl : x.length = n := h
    show tkBytes n (x ++ r, b) = _
    unfold tkBytes
    dsimp only
    rw [if_neg (by rw [List.length_append]; omega), List.take_append_of_le_length (by omega), List.drop_append_of_le_length (by omega), List.take_of_length_le (by omega), List.drop_of_length_le (by omega), List.nil_append]
  stay s h := by
    show (tkBytes n s).2.2 = true
    unfold tkBytes
    split
    · rfl
    · exact h
  fwd l h := by
    have h' : (tkBytes n (l, false)).2.2 = false := h
    show (tkBytes n (l, false)).1.length = n ∧ l = (tkBytes n (l, false)).1 ++ (tkBytes n (l, false)).2.1
    unfold tkBytes at h' ⊢
    by_cases hw : l.length < n
    · rw [if_pos hw] at h'; cases h'
    · rw [if_neg hw]
      have hw' : ¬ l.length < n := hw
      exact ⟨by show (l.take n).length = n; rw [List.length_take]; omega, by dsimp only; rw [List.take_append_drop]⟩
theorem txt_good : cTxt.Good where
  back x r b h := by
    have hl : x.length < 256 ^ 1 := h
    show tkTxt (be 1 x.length ++ x ++ r, b) = _
    unfold tkTxt
    have h1 : tkNum 1 (be 1 x.length ++ (x ++ r), b) = _ := (num_good 1).back x.length (x ++ r) b hl
    rw [List.append_assoc, h1]
    exact (bytes_good x.length).back x r b rfl
  stay s h := (bytes_good _).stay _ ((num_good 1).stay s h)
  fwd l h := by
    have h' : (tkBytes (tkNum 1 (l, false)).1 (tkNum 1 (l, false)).2).2.2 = false := h
    cases hs : (tkNum 1 (l, false)).2.2 with
    | true => have := (bytes_good (tkNum 1 (l, false)).1).stay _ hs; rw [show ((cBytes (tkNum 1 (l, false)).1).tk (tkNum 1 (l, false)).2).2.2 = false from h'] at this; cases this
    | false =>
      obtain ⟨h1, h2⟩ := (num_good 1).fwd l hs
      have h1 : (tkNum 1 (l, false)).1 < 256 ^ 1 := h1
      have h2 : l = be 1 (tkNum 1 (l, false)).1 ++ (tkNum 1 (l, false)).2.1 := h2
      have e : (tkNum 1 (l, false)).2 = ((tkNum 1 (l, false)).2.1, false) := S_eta hs
      rw [e] at h'
      obtain ⟨h3, h4⟩ := (bytes_good (tkNum 1 (l, false)).1).fwd _ h'
      show (tkTxt (l, false)).1.length < 256 ∧ l = (be 1 (tkTxt (l, false)).1.length ++ (tkTxt (l, false)).1) ++ (tkTxt (l, false)).2.1
      unfold tkTxt
      rw [e]
      have h3 : (tkBytes (tkNum 1 (l, false)).1 ((tkNum 1 (l, false)).2.1, false)).1.length = (tkNum 1 (l, false)).1 := h3
      refine ⟨by rw [h3]; exact h1, ?_⟩
      rw [h3, List.append_assoc]
      exact h2.trans (congrArg _ h4)
theorem hash_good : cHash.Good where
  back x r b h := by
    have hl : x.length = 32 := h
    show tkHash (x ++ r, b) = _
    unfold tkHash
    have h1 : tkBytes 32 (x ++ r, b) = (x, (r, b)) := (bytes_good 32).back x r b h
    rw [h1]
    dsimp only
    rw [hl, Nat.sub_self, List.replicate_zero, List.append_nil]
  stay s h := (bytes_good 32).stay s h
  fwd l h := by
    obtain ⟨h1, h2⟩ := (bytes_good 32).fwd l h
    have h1 : (tkBytes 32 (l, false)).1.length = 32 := h1
    have h2 : l = (tkBytes 32 (l, false)).1 ++ (tkBytes 32 (l, false)).2.1 := h2
    show (tkHash (l, false)).1.length = 32 ∧ l = (tkHash (l, false)).1 ++ (tkHash (l, false)).2.1
    unfold tkHash
    dsimp only
    rw [h1, Nat.sub_self, List.replicate_zero, List.append_nil]
    exact ⟨h1, h2⟩
section
variable {α β : Type}
/-- one behind the other -/
def Cod.pair (A : Cod α) (B : Cod β) : Cod (α × β) := ⟨fun s => (((A.tk s).1, (B.tk (A.tk s).2).1), (B.tk (A.tk s).2).2), fun p => A.wr p.1 ++ B.wr p.2, fun p => A.ok p.1 ∧ B.ok p.2⟩
theorem Cod.Good.pair {A : Cod α} {B : Cod β} (hA : A.Good) (hB : B.Good) : (A.pair B).Good where
  back x r b h := by
    show (((A.tk (A.wr x.1 ++ B.wr x.2 ++ r, b)).1, (B.tk (A.tk (A.wr x.1 ++ B.wr x.2 ++ r, b)).2).1), (B.tk (A.tk (A.wr x.1 ++ B.wr x.2 ++ r, b)).2).2) = _
    rw [List.append_assoc, hA.back x.1 _ b h.1]
    dsimp only
    rw [hB.back x.2 r b h.2]
  stay s h := hB.stay _ (hA.stay s h)
  fwd l h := by
    have h' : (B.tk (A.tk (l, false)).2).2.2 = false := h
    cases hs : (A.tk (l, false)).2.2 with
    | true => rw [hB.stay _ hs] at h'; cases h'
    | false =>
      obtain ⟨h1, h2⟩ := hA.fwd l hs
      have e : (A.tk (l, false)).2 = ((A.tk (l, false)).2.1, false) := S_eta hs
      rw [e] at h'
      obtain ⟨h3, h4⟩ := hB.fwd _ h'
      show (A.ok (A.tk (l, false)).1 ∧ B.ok (B.tk (A.tk (l, false)).2).1) ∧ l = (A.wr (A.tk (l, false)).1 ++ B.wr (B.tk (A.tk (l, false)).2).1) ++ (B.tk (A.tk (l, false)).2).2.1
      rw [e]
      exact ⟨⟨h1, h3⟩, by rw [List.append_assoc, ← h4]; exact h2⟩
/-- under another name -/
def Cod.as (A : Cod α) (f : α → β) (g : β → α) : Cod β := ⟨fun s => (f (A.tk s).1, (A.tk s).2), fun y => A.wr (g y), fun y => A.ok (g y)⟩
theorem Cod.Good.as {A : Cod α} (hA : A.Good) {f : α → β} {g : β → α} (h1 : ∀ x, f (g x) = x) (h2 : ∀ x, A.ok x → g (f x) = x) : (A.as f g).Good where
  back x r b h := by
    show (f (A.tk (A.wr (g x) ++ r, b)).1, (A.tk (A.wr (g x) ++ r, b)).2) = _
    rw [hA.back (g x) r b h]
    dsimp only
    rw [h1]
  stay s h := hA.stay s h
  fwd l h := by
    obtain ⟨h3, h4⟩ := hA.fwd l h
    show A.ok (g (f (A.tk (l, false)).1)) ∧ l = A.wr (g (f (A.tk (l, false)).1)) ++ (A.tk (l, false)).2.1
    rw [h2 _ h3]
    exact ⟨h3, h4⟩
/-- so many, till it is short -/
def tkMany (C : Cod α) : Nat → S → List α × S
  | 0, s => ([], s)
  | c + 1, s => if (C.tk s).2.2 = true then ([(C.tk s).1], (C.tk s).2) else ((C.tk s).1 :: (tkMany C c (C.tk s).2).1, (tkMany C c (C.tk s).2).2)
theorem many_back {C : Cod α} (hC : C.Good) : ∀ (xs : List α) (r : List UInt8), (∀ x ∈ xs, C.ok x) → tkMany C xs.length (xs.flatMap C.wr ++ r, false) = (xs, (r, false))
  | [], r, _ => rfl
  | x :: xs, r, h => by
    rw [List.flatMap_cons, List.append_assoc, List.length_cons, tkMany, hC.back x _ false (h x List.mem_cons_self), if_neg Bool.false_ne_true]
    dsimp only
    rw [many_back hC xs r fun y hy => h y (List.mem_cons_of_mem _ hy)]
theorem many_fwd {C : Cod α} (hC : C.Good) : ∀ (c : Nat) (l : List UInt8), (tkMany C c (l, false)).2.2 = false → (tkMany C c (l, false)).1.length = c ∧ (∀ x ∈ (tkMany C c (l, false)).1, C.ok x) ∧ l = (tkMany C c (l, false)).1.flatMap C.wr ++ (tkMany C c (l, false)).2.1
  | 0, l, _ => ⟨rfl, fun x h => (by cases h), rfl⟩
  | c + 1, l, h => by
    rw [tkMany] at h ⊢
    cases hs : (C.tk (l, false)).2.2 with
    | true => rw [if_pos hs] at h; exact absurd (hs.symm.trans h) (by decide)
    | false =>
      rw [if_neg (by simp [hs])] at h ⊢
      obtain ⟨h1, h2⟩ := hC.fwd l hs
      have e : (C.tk (l, false)).2 = ((C.tk (l, false)).2.1, false) := S_eta hs
      rw [e] at h ⊢
      obtain ⟨h3, h4, h5⟩ := many_fwd hC c _ h
      refine ⟨by dsimp only; rw [List.length_cons, h3], fun x hx => ?_, ?_⟩
      · rcases List.mem_cons.1 hx with rfl | hx
        · exact h1
        · exact h4 x hx
      · dsimp only
        rw [List.flatMap_cons, List.append_assoc, ← h5]
        exact h2
end
/-! ## a node -/
structure Kd where
  k : ByteArray
  n : Nat
  hs : List UInt8
structure Vo where
  nm : ByteArray
  kd : Nat
  fr : ByteArray
  bn : Nat
  rt : Nat
  hs : List UInt8
structure Nd where
  kd : Nat
  I : List It.Itm
  K : List Kd
  V : List Vo
def bs (l : List UInt8) : ByteArray := ⟨l.toArray⟩
theorem bs_data (l : List UInt8) : (bs l).data.toList = l := rfl
theorem data_bs (b : ByteArray) : bs b.data.toList = b := rfl
def cI : Cod It.Itm := (cTxt.pair cTxt).as (fun p => ⟨bs p.1, bs p.2⟩) fun x => (x.k.data.toList, x.v.data.toList)
def cK : Cod Kd := (cTxt.pair ((cNum 4).pair cHash)).as (fun p => ⟨bs p.1, p.2.1, p.2.2⟩) fun x => (x.k.data.toList, x.n, x.hs)
def cV : Cod Vo := (cTxt.pair (cTxt.pair ((cNum 1).pair ((cNum 8).pair ((cNum 4).pair cHash))))).as (fun p => ⟨bs p.1, p.2.2.1, bs p.2.1, p.2.2.2.1, p.2.2.2.2.1, p.2.2.2.2.2⟩) fun x => (x.nm.data.toList, x.fr.data.toList, x.kd, x.bn, x.rt, x.hs)
theorem cI_good : cI.Good := (txt_good.pair txt_good).as (fun _ => rfl) (fun _ _ => rfl)
theorem cK_good : cK.Good := (txt_good.pair ((num_good 4).pair hash_good)).as (fun _ => rfl) (fun _ _ => rfl)
theorem cV_good : cV.Good := (txt_good.pair (txt_good.pair ((num_good 1).pair ((num_good 8).pair ((num_good 4).pair hash_good))))).as (fun _ => rfl) (fun _ _ => rfl)
/-- a node's bytes -/
def wN (n : Nd) : List UInt8 := be 1 n.kd ++ (be 1 (n.I.length + n.K.length + n.V.length) ++ (n.I.flatMap cI.wr ++ (n.K.flatMap cK.wr ++ n.V.flatMap cV.wr)))
def allz (l : List UInt8) : Bool := l.all fun b => decide (b = 0)
/-- what is taken of bytes, and whether they were enough, with nothing behind -/
def tkN (l : List UInt8) : Nd × Bool :=
  let p := tkNum 1 (l, false)
  let q := tkNum 1 p.2
  if p.1 = 1 then (⟨p.1, (tkMany cI q.1 q.2).1, [], []⟩, !(tkMany cI q.1 q.2).2.2 && allz (tkMany cI q.1 q.2).2.1)
  else if p.1 = 2 then (⟨p.1, [], (tkMany cK q.1 q.2).1, []⟩, !(tkMany cK q.1 q.2).2.2 && allz (tkMany cK q.1 q.2).2.1)
  else if p.1 = 3 then (⟨p.1, [], [], (tkMany cV q.1 q.2).1⟩, !(tkMany cV q.1 q.2).2.2 && allz (tkMany cV q.1 q.2).2.1)
  else (⟨p.1, [], [], []⟩, !q.2.2 && allz q.2.1)
/-- a node of one sort of entries, each of which can be written -/
structure Fm (n : Nd) : Prop where
  kd : n.kd = 1 ∧ n.K = [] ∧ n.V = [] ∨ n.kd = 2 ∧ n.I = [] ∧ n.V = [] ∨ n.kd = 3 ∧ n.I = [] ∧ n.K = []
  few : n.I.length + n.K.length + n.V.length < 256
  I : ∀ x ∈ n.I, cI.ok x
  K : ∀ x ∈ n.K, cK.ok x
  V : ∀ x ∈ n.V, cV.ok x
theorem allz_rep (j : Nat) : allz (List.replicate j 0) = true := by unfold allz; rw [List.all_eq_true]; intro b hb; rw [(List.mem_replicate.1 hb).2]; rfl
theorem rep_allz : ∀ {l : List UInt8}, allz l = true → l = List.replicate l.length 0
  | [], _ => rfl
  | b :: l, h => by
    unfold allz at h
    rw [List.all_cons, Bool.and_eq_true, decide_eq_true_iff] at h
    rw [h.1, List.length_cons, List.replicate_succ, ← rep_allz (l := l) h.2]
theorem tk_wr {n : Nd} (h : Fm n) (j : Nat) : tkN (wN n ++ List.replicate j 0) = (n, true) := by
  obtain ⟨kd, I, K, V⟩ := n
  obtain ⟨hkd, few, hI, hK, hV⟩ := h
  dsimp only at hkd few hI hK hV
  have e1 : tkNum 1 (wN ⟨kd, I, K, V⟩ ++ List.replicate j 0, false) = (kd, (be 1 (I.length + K.length + V.length) ++ (I.flatMap cI.wr ++ (K.flatMap cK.wr ++ V.flatMap cV.wr)) ++ List.replicate j 0, false)) := by
    unfold wN
    rw [List.append_assoc]
    exact (num_good 1).back kd _ false (show kd < 256 ^ 1 by omega)
  have e2 : tkNum 1 (be 1 (I.length + K.length + V.length) ++ (I.flatMap cI.wr ++ (K.flatMap cK.wr ++ V.flatMap cV.wr)) ++ List.replicate j 0, false) = (I.length + K.length + V.length, (I.flatMap cI.wr ++ (K.flatMap cK.wr ++ V.flatMap cV.wr) ++ List.replicate j 0, false)) := by
    rw [List.append_assoc]
    exact (num_good 1).back (I.length + K.length + V.length) _ false (show _ < 256 ^ 1 by omega)
  unfold tkN
  rw [e1]
  dsimp only
  rw [e2]
  dsimp only
  rcases hkd with ⟨rfl, rfl, rfl⟩ | ⟨rfl, rfl, rfl⟩ | ⟨rfl, rfl, rfl⟩
  · rw [if_pos rfl]
    have := many_back cI_good I (List.replicate j 0) hI
    simp only [List.length_nil, Nat.add_zero, List.flatMap_nil, List.append_nil]
    rw [this]
    simp [allz_rep]
  · rw [if_neg (by decide), if_pos rfl]
    have := many_back cK_good K (List.replicate j 0) hK
    simp only [List.length_nil, Nat.add_zero, Nat.zero_add, List.flatMap_nil, List.append_nil, List.nil_append]
    rw [this]
    simp [allz_rep]
  · rw [if_neg (by decide), if_neg (by decide), if_pos rfl]
    have := many_back cV_good V (List.replicate j 0) hV
    simp only [List.length_nil, Nat.zero_add, List.flatMap_nil, List.nil_append]
    rw [this]
    simp [allz_rep]
theorem wr_tk {l : List UInt8} (h : (tkN l).2 = true) (hk : (tkN l).1.kd = 1 ∨ (tkN l).1.kd = 2 ∨ (tkN l).1.kd = 3) : Fm (tkN l).1 ∧ ∃ j, l = wN (tkN l).1 ++ List.replicate j 0 := by
  obtain ⟨kd, s1, hp⟩ : ∃ kd s1, tkNum 1 (l, false) = (kd, s1) := ⟨_, _, rfl⟩
  obtain ⟨c, s2, hq⟩ : ∃ c s2, tkNum 1 s1 = (c, s2) := ⟨_, _, rfl⟩
  have num_stay : ∀ s : S, s.2 = true → (tkNum 1 s).2.2 = true := (num_good 1).stay
  have front : s2.2 = false → c < 256 ∧ l = be 1 kd ++ (be 1 c ++ s2.1) := by
    intro h2
    have h1 : s1.2 = false := by
      cases hs : s1.2
      · rfl
      · have := num_stay s1 hs; rw [hq] at this; rw [show s2.2 = true from this] at h2; cases h2
    have e1 : s1 = (s1.1, false) := S_eta h1
    have f1 : kd < 256 ^ 1 ∧ l = be 1 kd ++ s1.1 := by have := (num_good 1).fwd l (show (tkNum 1 (l, false)).2.2 = false by rw [hp]; exact h1); rw [show (cNum 1).tk (l, false) = (kd, s1) from hp] at this; exact this
    have f2 : c < 256 ^ 1 ∧ s1.1 = be 1 c ++ s2.1 := by have := (num_good 1).fwd s1.1 (show (tkNum 1 (s1.1, false)).2.2 = false by rw [← e1, hq]; exact h2); rw [show (cNum 1).tk (s1.1, false) = (c, s2) by rw [← e1]; exact hq] at this; exact this
    exact ⟨f2.1, by rw [← f2.2]; exact f1.2⟩
  unfold tkN at h hk ⊢
  rw [hp] at h hk ⊢
  dsimp only at h hk ⊢
  rw [hq] at h hk ⊢
  dsimp only at h hk ⊢
  have many_short : ∀ {α : Type} {C : Cod α}, C.Good → ∀ (m : Nat) (s : S), s.2 = true → (tkMany C m s).2.2 = true := by
    intro α C hC m s hs
    cases m with
    | zero => exact hs
    | succ m => rw [tkMany, if_pos (hC.stay s hs)]; exact hC.stay s hs
  have step : ∀ {α : Type} {C : Cod α}, C.Good → (tkMany C c s2).2.2 = false → (c < 256 ∧ l = be 1 kd ++ (be 1 c ++ s2.1)) ∧ (tkMany C c s2).1.length = c ∧ (∀ x ∈ (tkMany C c s2).1, C.ok x) ∧ s2.1 = (tkMany C c s2).1.flatMap C.wr ++ (tkMany C c s2).2.1 := by
    intro α C hC hf
    have h2 : s2.2 = false := by
      cases hs : s2.2
      · rfl
      · rw [many_short hC c s2 hs] at hf; cases hf
    have e2 : s2 = (s2.1, false) := S_eta h2
    refine ⟨front h2, ?_⟩
    have := many_fwd hC c s2.1 (by rw [← e2]; exact hf)
    rw [← e2] at this
    exact this
  by_cases h1 : kd = 1
  · rw [if_pos h1] at h ⊢
    dsimp only at h ⊢
    rw [Bool.and_eq_true, Bool.not_eq_true'] at h
    obtain ⟨⟨f1, f2⟩, f3, f4, f5⟩ := step cI_good h.1
    refine ⟨⟨.inl ⟨h1, rfl, rfl⟩, by dsimp only; rw [f3]; exact f1, f4, fun x hx => (by cases hx), fun x hx => (by cases hx)⟩, (tkMany cI c s2).2.1.length, ?_⟩
    unfold wN
    dsimp only
    rw [f3]
    simp only [List.length_nil, Nat.add_zero, List.flatMap_nil, List.append_nil]
    rw [← rep_allz h.2, List.append_assoc, List.append_assoc, ← f5]
    exact f2
  · rw [if_neg h1] at h hk ⊢
    by_cases h2 : kd = 2
    · rw [if_pos h2] at h ⊢
      dsimp only at h ⊢
      rw [Bool.and_eq_true, Bool.not_eq_true'] at h
      obtain ⟨⟨f1, f2⟩, f3, f4, f5⟩ := step cK_good h.1
      refine ⟨⟨.inr (.inl ⟨h2, rfl, rfl⟩), by dsimp only; rw [f3]; simpa using f1, fun x hx => (by cases hx), f4, fun x hx => (by cases hx)⟩, (tkMany cK c s2).2.1.length, ?_⟩
      unfold wN
      dsimp only
      rw [f3]
      simp only [List.length_nil, Nat.add_zero, Nat.zero_add, List.flatMap_nil, List.append_nil, List.nil_append]
      rw [← rep_allz h.2, List.append_assoc, List.append_assoc, ← f5]
      exact f2
    · rw [if_neg h2] at h hk ⊢
      by_cases h3 : kd = 3
      · rw [if_pos h3] at h ⊢
        dsimp only at h ⊢
        rw [Bool.and_eq_true, Bool.not_eq_true'] at h
        obtain ⟨⟨f1, f2⟩, f3, f4, f5⟩ := step cV_good h.1
        refine ⟨⟨.inr (.inr ⟨h3, rfl, rfl⟩), by dsimp only; rw [f3]; simpa using f1, fun x hx => (by cases hx), fun x hx => (by cases hx), f4⟩, (tkMany cV c s2).2.1.length, ?_⟩
        unfold wN
        dsimp only
        rw [f3]
        simp only [List.length_nil, Nat.zero_add, List.flatMap_nil, List.nil_append]
        rw [← rep_allz h.2, List.append_assoc, List.append_assoc, ← f5]
        exact f2
      · rw [if_neg h3] at hk
        dsimp only at hk
        omega
end Go.Proofs.YtjkmfonngbendaaGreatDoor.Nd
