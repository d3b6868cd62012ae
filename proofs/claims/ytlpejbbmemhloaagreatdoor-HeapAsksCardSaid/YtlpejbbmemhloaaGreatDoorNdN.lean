/- Plain mathematics of sealed bytes: bytes behind their sum, without the zero bytes at the end; a node's data are read as it, data that are read are a node's; with one bit turned they are none. -/
import Derived.Test.YtlpejbbmemhloaaGreatDoorNdM
namespace Go.Proofs.YtlpejbbmemhloaaGreatDoor.Nd
set_option linter.unusedVariables false
open Pk (be num be_length num_be num_lt num_snoc crc crc_turned)
/-- without the zero bytes at the end -/
def cutz (l : List UInt8) : List UInt8 := (l.reverse.dropWhile fun b => decide (b = 0)).reverse
theorem cutz_snoc (l : List UInt8) (b : UInt8) : cutz (l ++ [b]) = if b = 0 then cutz l else l ++ [b] := by
  unfold cutz
  rw [List.reverse_append, List.reverse_singleton, List.singleton_append]
  by_cases h : b = 0
  · rw [if_pos h, List.dropWhile_cons_of_pos (by rw [h]; rfl)]
  · rw [if_neg h, List.dropWhile_cons_of_neg (by simpa using h), List.reverse_cons, List.reverse_reverse]
theorem cutz_zeros (l : List UInt8) : ∀ j, cutz (l ++ List.replicate j 0) = cutz l
  | 0 => by rw [List.replicate_zero, List.append_nil]
  | j + 1 => by rw [List.replicate_succ', ← List.append_assoc, cutz_snoc, if_pos rfl, cutz_zeros l j]
theorem cutz_len (l : List UInt8) : (cutz l).length ≤ l.length := by
  unfold cutz
  rw [List.length_reverse]
  have := (List.dropWhile_sublist (fun b : UInt8 => decide (b = 0)) (l := l.reverse)).length_le
  rwa [List.length_reverse] at this
theorem cutz_last (l : List UInt8) : (cutz l).getLast? ≠ some 0 := by
  unfold cutz
  rw [List.getLast?_reverse]
  intro h
  have := List.head?_dropWhile_not (fun b : UInt8 => decide (b = 0)) l.reverse
  rw [h] at this
  simp at this
theorem cutz_same {l : List UInt8} (h : l.getLast? ≠ some 0) : cutz l = l := by
  have key : ∀ r : List UInt8, r.reverse.getLast? ≠ some 0 → cutz r.reverse = r.reverse := by
    intro r hr
    cases r with
    | nil => rfl
    | cons b r =>
      rw [List.reverse_cons] at hr ⊢
      rw [cutz_snoc, if_neg]
      intro e
      exact hr (by rw [List.getLast?_concat, e])
  have := key l.reverse
  rw [List.reverse_reverse] at this
  exact this h
/-- filled up with zero bytes -/
def fillz (l : List UInt8) (m : Nat) : List UInt8 := l ++ List.replicate (m - l.length) 0
theorem fillz_len {l : List UInt8} {m : Nat} (h : l.length ≤ m) : (fillz l m).length = m := by unfold fillz; rw [List.length_append, List.length_replicate]; omega
theorem fill_cut (l : List UInt8) : fillz (cutz l) l.length = l := by
  have key : ∀ r : List UInt8, fillz (cutz r.reverse) r.reverse.length = r.reverse := by
    intro r
    induction r with
    | nil => rfl
    | cons b r ih =>
      rw [List.reverse_cons, cutz_snoc]
      by_cases h : b = 0
      · rw [if_pos h, h]
        have hl := cutz_len r.reverse
        unfold fillz at ih ⊢
        rw [List.length_append, List.length_singleton, show r.reverse.length + 1 - (cutz r.reverse).length = (r.reverse.length - (cutz r.reverse).length) + 1 by omega, List.replicate_succ', ← List.append_assoc, ih]
      · rw [if_neg h]
        unfold fillz
        rw [Nat.sub_self, List.replicate_zero, List.append_nil]
  have := key l.reverse
  rwa [List.reverse_reverse] at this
theorem cut_fill {l : List UInt8} (m : Nat) (h : l.getLast? ≠ some 0) : cutz (fillz l m) = l := by
  unfold fillz
  rw [cutz_zeros, cutz_same h]
def sumB (l : List UInt8) : List UInt8 := be 4 (crc l).toNat
theorem sumB_len (l : List UInt8) : (sumB l).length = 4 := be_length 4 _
/-- bytes as a block has them -/
def sealL (b : List UInt8) : List UInt8 := cutz (sumB (fillz b 508) ++ fillz b 508)
/-- what stands behind the sum -/
def openL (d : List UInt8) : Option (List UInt8) :=
  if 512 < d.length ∨ d.getLast? = some 0 then none else if num ((fillz d 512).take 4) = (crc ((fillz d 512).drop 4)).toNat then some ((fillz d 512).drop 4) else none
theorem seal_fill {b : List UInt8} (h : b.length ≤ 508) : fillz (sealL b) 512 = sumB (fillz b 508) ++ fillz b 508 := by
  have := fill_cut (sumB (fillz b 508) ++ fillz b 508)
  rw [List.length_append, sumB_len, fillz_len h] at this
  exact this
theorem seal_len {b : List UInt8} (h : b.length ≤ 508) : (sealL b).length ≤ 512 := by
  have := cutz_len (sumB (fillz b 508) ++ fillz b 508)
  rw [List.length_append, sumB_len, fillz_len h] at this
  exact this
theorem open_seal {b : List UInt8} (h : b.length ≤ 508) : openL (sealL b) = some (fillz b 508) := by
  have hl := seal_len h
  have h4 := sumB_len (fillz b 508)
  unfold openL
  rw [if_neg (by intro hh; rcases hh with hh | hh; (· omega); (· exact cutz_last _ hh)), seal_fill h, List.take_append_of_le_length (by omega), List.drop_append_of_le_length (by omega), List.take_of_length_le (by omega), List.drop_of_length_le (by omega), List.nil_append, if_pos]
  exact num_be 4 _ (by have := (crc (fillz b 508)).isLt; omega)
theorem be_num4 {l : List UInt8} (h : l.length = 4) : be 4 (num l) = l := by have := be_num l; rwa [h] at this
theorem seal_open {d w : List UInt8} (h : openL d = some w) : w.length = 508 ∧ d = cutz (sumB w ++ w) ∧ d.length ≤ 512 ∧ fillz d 512 = sumB w ++ w := by
  unfold openL at h
  split at h
  · cases h
  · rename_i h1
    split at h
    · rename_i h2
      cases h
      have hd : d.length ≤ 512 := by
        rcases Nat.lt_or_ge 512 d.length with h3 | h3
        · exact absurd (.inl h3) h1
        · exact h3
      have hl := fillz_len hd
      have ht : ((fillz d 512).take 4).length = 4 := by rw [List.length_take]; omega
      have e : sumB ((fillz d 512).drop 4) ++ (fillz d 512).drop 4 = fillz d 512 := by
        unfold sumB
        rw [← h2, be_num4 ht, List.take_append_drop]
      refine ⟨by rw [List.length_drop]; omega, ?_, hd, e.symm⟩
      rw [e, cut_fill 512 fun h3 => h1 (.inr h3)]
    · cases h
theorem fillz_pre {b : List UInt8} {j m : Nat} (h : (b ++ List.replicate j 0).length = m) : b ++ List.replicate j 0 = fillz b m := by
  unfold fillz
  rw [List.length_append, List.length_replicate] at h
  rw [show m - b.length = j by omega]
/-! ## a node's size -/
def szI (x : It.Itm) : Nat := 2 + x.k.size + x.v.size
def szK (x : Kd) : Nat := 37 + x.k.size
def szV (x : Vo) : Nat := 47 + x.nm.size + x.fr.size
def szN (n : Nd) : Nat := if n.kd = 1 then 2 + (n.I.map szI).sum else if n.kd = 2 then 2 + (n.K.map szK).sum else if n.kd = 3 then 2 + (n.V.map szV).sum else 2
theorem wrI_len (x : It.Itm) : (cI.wr x).length = szI x := by
  show ((be 1 x.k.data.toList.length ++ x.k.data.toList) ++ (be 1 x.v.data.toList.length ++ x.v.data.toList)).length = _
  simp only [List.length_append, be_length, Array.length_toList]
  unfold szI
  show 1 + x.k.size + (1 + x.v.size) = _
  omega
theorem wrK_len {x : Kd} (h : cK.ok x) : (cK.wr x).length = szK x := by
  have hh : x.hs.length = 32 := h.2.2
  show ((be 1 x.k.data.toList.length ++ x.k.data.toList) ++ (be 4 x.n ++ x.hs)).length = _
  simp only [List.length_append, be_length, Array.length_toList, hh]
  unfold szK
  show 1 + x.k.size + 36 = _
  omega
theorem wrV_len {x : Vo} (h : cV.ok x) : (cV.wr x).length = szV x := by
  have hh : x.hs.length = 32 := h.2.2.2.2.2
  show ((be 1 x.nm.data.toList.length ++ x.nm.data.toList) ++ ((be 1 x.fr.data.toList.length ++ x.fr.data.toList) ++ (be 1 x.kd ++ (be 8 x.bn ++ (be 4 x.rt ++ x.hs))))).length = _
  simp only [List.length_append, be_length, Array.length_toList, hh]
  unfold szV
  show 1 + x.nm.size + (1 + x.fr.size + 45) = _
  omega
theorem flat_sum {α : Type} {wr : α → List UInt8} {sz : α → Nat} : ∀ {l : List α}, (∀ x ∈ l, (wr x).length = sz x) → (l.flatMap wr).length = (l.map sz).sum
  | [], _ => rfl
  | x :: l, h => by
    rw [List.flatMap_cons, List.length_append, h x List.mem_cons_self, List.map_cons, List.sum_cons, flat_sum fun y hy => h y (List.mem_cons_of_mem _ hy)]
theorem wN_len {n : Nd} (h : Fm n) : (wN n).length = szN n := by
  obtain ⟨kd, I, K, V⟩ := n
  obtain ⟨hkd, few, hI, hK, hV⟩ := h
  dsimp only at hkd few hI hK hV
  unfold wN szN
  dsimp only
  simp only [List.length_append, be_length]
  rcases hkd with ⟨rfl, rfl, rfl⟩ | ⟨rfl, rfl, rfl⟩ | ⟨rfl, rfl, rfl⟩
  · rw [if_pos rfl, flat_sum fun x _ => wrI_len x]
    simp only [List.flatMap_nil, List.length_nil]
    omega
  · rw [if_neg (by decide), if_pos rfl, flat_sum (sz := szK) fun x hx => wrK_len (hK x hx)]
    simp only [List.flatMap_nil, List.length_nil]
    omega
  · rw [if_neg (by decide), if_neg (by decide), if_pos rfl, flat_sum (sz := szV) fun x hx => wrV_len (hV x hx)]
    simp only [List.flatMap_nil, List.length_nil]
    omega
/-! ## right nodes -/
def okNum (n : Nat) : Bool := decide (2 ≤ n) && decide (n < 65536)
def okK (x : Kd) : Bool := decide (x.k.size ≠ 0) && (decide (x.k.size ≤ 48) && okNum x.n)
def relK (p : Option Kd) (x : Kd) : Bool := match p with | none => true | some y => By.bl y.k.data.toList x.k.data.toList
def rtK : Option Kd → List Kd → Bool
  | _, [] => true
  | p, x :: r => okK x && (relK p x && rtK (some x) r)
def zero32 (l : List UInt8) : Bool := decide (l = List.replicate 32 0)
def okV (x : Vo) : Bool := decide (x.nm.size ≠ 0) && (decide (x.nm.size ≤ 16) && (decide (x.fr.size ≤ 16) && (decide (1 ≤ x.kd) && (decide (x.kd ≤ 2) && (if x.rt = 0 then zero32 x.hs else okNum x.rt)))))
def relV (p : Option Vo) (x : Vo) : Bool := match p with | none => true | some y => By.bl y.nm.data.toList x.nm.data.toList
def rtV : Option Vo → List Vo → Bool
  | _, [] => true
  | p, x :: r => okV x && (relV p x && rtV (some x) r)
def okCount (n : Nat) : Bool := decide (1 ≤ n) && decide (n ≤ 255)
def rtN (n : Nd) : Bool :=
  if n.kd = 1 then decide (n.K.length = 0) && (decide (n.V.length = 0) && (okCount n.I.length && It.rt n.I))
  else if n.kd = 2 then decide (n.I.length = 0) && (decide (n.V.length = 0) && (okCount n.K.length && rtK none n.K))
  else if n.kd = 3 then decide (n.I.length = 0) && (decide (n.K.length = 0) && (decide (n.V.length ≤ 6) && rtV none n.V))
  else false
def ckN (n : Nd) : Int := if rtN n then (if 508 < szN n then 2 else 0) else 4
/-- what any node of the program's has: hashes of 32 bytes, numbers in their widths -/
structure Wd (n : Nd) : Prop where
  K : ∀ x ∈ n.K, x.n < 256 ^ 4 ∧ x.hs.length = 32
  V : ∀ x ∈ n.V, x.kd < 256 ^ 1 ∧ x.bn < 256 ^ 8 ∧ x.rt < 256 ^ 4 ∧ x.hs.length = 32
theorem rtK_all : ∀ (p : Option Kd) (l : List Kd), rtK p l = true → ∀ x ∈ l, okK x = true
  | _, [], _, x, h => by cases h
  | p, y :: r, h, x, hx => by
    rw [rtK, Bool.and_eq_true, Bool.and_eq_true] at h
    rcases List.mem_cons.1 hx with rfl | hx
    · exact h.1
    · exact rtK_all _ r h.2.2 x hx
theorem rtV_all : ∀ (p : Option Vo) (l : List Vo), rtV p l = true → ∀ x ∈ l, okV x = true
  | _, [], _, x, h => by cases h
  | p, y :: r, h, x, hx => by
    rw [rtV, Bool.and_eq_true, Bool.and_eq_true] at h
    rcases List.mem_cons.1 hx with rfl | hx
    · exact h.1
    · exact rtV_all _ r h.2.2 x hx
theorem rtI_all : ∀ (p : Option It.Itm) (l : List It.Itm), It.rtFrom p l = true → ∀ x ∈ l, It.okI x = true
  | _, [], _, x, h => by cases h
  | none, y :: r, h, x, hx => by
    rw [It.rtFrom, Bool.and_eq_true] at h
    rcases List.mem_cons.1 hx with rfl | hx
    · exact h.1
    · exact rtI_all _ r h.2 x hx
  | some z, y :: r, h, x, hx => by
    rw [It.rtFrom, Bool.and_eq_true, Bool.and_eq_true] at h
    rcases List.mem_cons.1 hx with rfl | hx
    · exact h.1
    · exact rtI_all _ r h.2.2 x hx
theorem rt_fm {n : Nd} (hw : Wd n) (h : rtN n = true) : Fm n := by
  obtain ⟨kd, I, K, V⟩ := n
  obtain ⟨wK, wV⟩ := hw
  dsimp only at wK wV
  unfold rtN at h
  dsimp only at h
  have nil : ∀ {α : Type} {l : List α}, l.length = 0 → l = [] := List.eq_nil_of_length_eq_zero
  by_cases h1 : kd = 1
  · rw [if_pos h1] at h
    simp only [Bool.and_eq_true, decide_eq_true_eq, okCount] at h
    obtain ⟨hK, hV, ⟨_, hc⟩, hr⟩ := h
    have hK := nil hK
    have hV := nil hV
    subst hK
    subst hV
    refine ⟨.inl ⟨h1, rfl, rfl⟩, by dsimp only [List.length_nil]; omega, fun x hx => ?_, fun x hx => (by cases hx), fun x hx => (by cases hx)⟩
    have := rtI_all none I hr x hx
    simp only [It.okI, It.okKey, Bool.and_eq_true, decide_eq_true_eq] at this
    exact ⟨show x.k.data.toList.length < 256 by have e : x.k.data.toList.length = x.k.size := Array.length_toList; omega, show x.v.data.toList.length < 256 by have e : x.v.data.toList.length = x.v.size := Array.length_toList; omega⟩
  · rw [if_neg h1] at h
    by_cases h2 : kd = 2
    · rw [if_pos h2] at h
      simp only [Bool.and_eq_true, decide_eq_true_eq, okCount] at h
      obtain ⟨hI, hV, ⟨_, hc⟩, hr⟩ := h
      have hI := nil hI
      have hV := nil hV
      subst hI
      subst hV
      refine ⟨.inr (.inl ⟨h2, rfl, rfl⟩), by dsimp only [List.length_nil]; omega, fun x hx => (by cases hx), fun x hx => ?_, fun x hx => (by cases hx)⟩
      have := rtK_all none K hr x hx
      simp only [okK, Bool.and_eq_true, decide_eq_true_eq] at this
      exact ⟨show x.k.data.toList.length < 256 by have e : x.k.data.toList.length = x.k.size := Array.length_toList; omega, (wK x hx).1, (wK x hx).2⟩
    · rw [if_neg h2] at h
      by_cases h3 : kd = 3
      · rw [if_pos h3] at h
        simp only [Bool.and_eq_true, decide_eq_true_eq] at h
        obtain ⟨hI, hK, hc, hr⟩ := h
        have hI := nil hI
        have hK := nil hK
        subst hI
        subst hK
        refine ⟨.inr (.inr ⟨h3, rfl, rfl⟩), by dsimp only [List.length_nil]; omega, fun x hx => (by cases hx), fun x hx => (by cases hx), fun x hx => ?_⟩
        have := rtV_all none V hr x hx
        simp only [okV, Bool.and_eq_true, decide_eq_true_eq] at this
        obtain ⟨v1, v2, v3, v4⟩ := wV x hx
        exact ⟨show x.nm.data.toList.length < 256 by have e : x.nm.data.toList.length = x.nm.size := Array.length_toList; omega, show x.fr.data.toList.length < 256 by have e : x.fr.data.toList.length = x.fr.size := Array.length_toList; omega, v1, v2, v3, v4⟩
      · rw [if_neg h3] at h; cases h
theorem ck_zero {n : Nd} : ckN n = 0 ↔ rtN n = true ∧ szN n ≤ 508 := by
  unfold ckN
  by_cases h : rtN n = true
  · rw [if_pos h]
    by_cases h2 : 508 < szN n
    · rw [if_pos h2]; constructor
      · intro e; cases e
      · rintro ⟨_, h3⟩; omega
    · rw [if_neg h2]; exact ⟨fun _ => ⟨h, by omega⟩, fun _ => rfl⟩
  · rw [if_neg h]; constructor
    · intro e; cases e
    · rintro ⟨h2, _⟩; exact absurd h2 h
theorem rt_kd {n : Nd} (h : rtN n = true) : n.kd = 1 ∨ n.kd = 2 ∨ n.kd = 3 := by
  unfold rtN at h
  by_cases h1 : n.kd = 1
  · exact .inl h1
  · rw [if_neg h1] at h
    by_cases h2 : n.kd = 2
    · exact .inr (.inl h2)
    · rw [if_neg h2] at h
      by_cases h3 : n.kd = 3
      · exact .inr (.inr h3)
      · rw [if_neg h3] at h; cases h
/-- what data are read as -/
def decN (d : List UInt8) : Option Nd := match openL d with | none => none | some w => if (tkN w).2 = true ∧ ckN (tkN w).1 = 0 then some (tkN w).1 else none
def encN (n : Nd) : List UInt8 := sealL (wN n)
theorem dec_enc {n : Nd} (hw : Wd n) (h : ckN n = 0) : decN (encN n) = some n := by
  obtain ⟨h1, h2⟩ := ck_zero.1 h
  have hf := rt_fm hw h1
  have hl := wN_len hf
  unfold decN encN
  rw [open_seal (by omega)]
  dsimp only
  unfold fillz
  rw [tk_wr hf, if_pos ⟨rfl, h⟩]
theorem enc_dec {d : List UInt8} {n : Nd} (h : decN d = some n) : ckN n = 0 ∧ Fm n ∧ encN n = d := by
  unfold decN at h
  split at h
  · cases h
  · rename_i w hw
    split at h
    · rename_i h1
      cases h
      obtain ⟨h2, j, e⟩ := wr_tk h1.1 (rt_kd (ck_zero.1 h1.2).1)
      obtain ⟨o1, o2, o3, o4⟩ := seal_open hw
      have e2 : w = fillz (wN (tkN w).1) 508 := e.trans (fillz_pre (by rw [← e]; exact o1))
      refine ⟨h1.2, h2, ?_⟩
      unfold encN sealL
      rw [← e2]
      exact o2.symm
    · cases h
theorem enc_inj {a b : Nd} (ha : Wd a) (hb : Wd b) (ca : ckN a = 0) (cb : ckN b = 0) (h : encN a = encN b) : a = b := by
  have h1 := dec_enc ha ca
  rw [h, dec_enc hb cb] at h1
  exact (Option.some.inj h1).symm
theorem enc_len {n : Nd} (hw : Wd n) (h : ckN n = 0) : (encN n).length ≤ 512 ∧ (encN n).length ≤ szN n + 4 := by
  obtain ⟨h1, h2⟩ := ck_zero.1 h
  have hl := wN_len (rt_fm hw h1)
  refine ⟨seal_len (by omega), ?_⟩
  unfold encN sealL
  have e : sumB (fillz (wN n) 508) ++ fillz (wN n) 508 = (sumB (fillz (wN n) 508) ++ wN n) ++ List.replicate (508 - (wN n).length) 0 := by
    rw [List.append_assoc]; rfl
  rw [e, cutz_zeros]
  have := cutz_len (sumB (fillz (wN n) 508) ++ wN n)
  rw [List.length_append, sumB_len] at this
  omega
/-- with one bit turned, a sealed block is none: b is another byte than 0 -/
theorem turned_none {F w : List UInt8} (o4 : F = sumB w ++ w) (o1 : w.length = 508) (hl : F.length = 512) (i : Nat) (hi : i < 512) (b : UInt8) (hb : b ≠ 0) : openL (cutz (F.set i (F[i]'(by omega) ^^^ b))) = none := by
  have hs : (F.set i (F[i]'(by omega) ^^^ b)).length = 512 := by rw [List.length_set]; exact hl
  have hfc := fill_cut (F.set i (F[i]'(by omega) ^^^ b))
  rw [hs] at hfc
  unfold openL
  split
  · rfl
  · rw [hfc, if_neg]
    intro e
    have h4 := sumB_len w
    have xne : ∀ x : UInt8, x ^^^ b ≠ x := by
      intro x hx
      apply hb
      have := congrArg (fun y => x ^^^ y) hx
      simpa [← UInt8.xor_assoc] using this
    by_cases hi4 : i < 4
    · have e1 : (F.set i (F[i]'(by omega) ^^^ b)).drop 4 = w := by
        rw [List.drop_set_of_lt hi4, o4, List.drop_append_of_le_length (by omega), List.drop_of_length_le (by omega), List.nil_append]
      rw [e1] at e
      have ht : ((F.set i (F[i]'(by omega) ^^^ b)).take 4).length = 4 := by rw [List.length_take]; omega
      have e2 : (F.set i (F[i]'(by omega) ^^^ b)).take 4 = F.take 4 := by
        have q1 := be_num4 ht
        rw [e] at q1
        rw [← q1, o4, List.take_append_of_le_length (by omega), List.take_of_length_le (by omega)]
        rfl
      have e3 := congrArg (fun l : List UInt8 => l[i]?) e2
      simp only [List.getElem?_take, hi4, if_true, List.getElem?_set_self (show i < F.length by omega), List.getElem?_eq_getElem (show i < F.length by omega)] at e3
      exact xne _ (Option.some.inj e3)
    · have e1 : (F.set i (F[i]'(by omega) ^^^ b)).drop 4 = w.set (i - 4) (w[i - 4]'(by omega) ^^^ b) := by
        have hg : F[i]'(by omega) = w[i - 4]'(by omega) := by
          have q : F[i]? = w[i - 4]? := by rw [o4, List.getElem?_append_right (by omega), h4]
          rw [List.getElem?_eq_getElem (by omega), List.getElem?_eq_getElem (by omega)] at q
          exact Option.some.inj q
        rw [hg]
        have hd : F.drop 4 = w := by rw [o4, List.drop_append_of_le_length (by omega), List.drop_of_length_le (by omega), List.nil_append]
        rw [List.drop_set, if_neg (by omega), hd]
      have e2 : (F.set i (F[i]'(by omega) ^^^ b)).take 4 = sumB w := by
        rw [List.take_set_of_le (by omega), o4, List.take_append_of_le_length (by omega), List.take_of_length_le (by omega)]
      rw [e1, e2] at e
      have q := crc_turned w (i - 4) (by omega) b hb
      apply q
      apply BitVec.eq_of_toNat_eq
      rw [← e]
      exact num_be 4 _ (by have := (crc w).isLt; omega)
end Go.Proofs.YtlpejbbmemhloaaGreatDoor.Nd
