/- Contract of package slices' BinarySearchFunc at items, and of package item's place. -/
import Derived.Test.YtjkmfonngbendaaGreatDoorLs
import Derived.Test.YtjkmfonngbendaaGreatDoorItB
import Derived.Test.YtjkmfonngbendaaGreatDoorNdM
import Derived.Test.YtjkmfonngbendaaGreatDoorShf
import Derived.Test.YtjkmfonngbendaaGreatDoorRgG
import Derived.Test.YtjkmfonngbendaaGreatDoorPackB
import Derived.Test.YtjkmfonngbendaaGreatDoorMathC
import Derived.Test.YtjkmfonngbendaaGreatDoorGb1
import Derived.Test.YtjkmfonngbendaaGreatDoorJtC
import Derived.Test.YtjkmfonngbendaaGreatDoorRgT
import Derived.Test.YtjkmfonngbendaaGreatDoorGb2
import Derived.Test.YtjkmfonngbendaaGreatDoorItD
import Derived.Test.YtjkmfonngbendaaGreatDoorShaE
import Derived.Test.YtjkmfonngbendaaGreatDoorJtH
import Derived.Test.YtjkmfonngbendaaGreatDoorSumK
import Derived.Test.YtjkmfonngbendaaGreatDoorItC
import Derived.Test.YtjkmfonngbendaaGreatDoorChM
import Derived.Lib.Builder
import Derived.Lib.AppendStr
import Derived.Lib.UnsafeStr
import Derived.Lib.FrozenHead
import Derived.Shelf.RegionOpenPlain
import Derived.Lib.BufferWrite
import Derived.Laws.Rows
import Derived.Deep.Slices
import Derived.ChangeArms
namespace Go.Proofs.YtjkmfonngbendaaGreatDoor.It
set_option linter.unusedVariables false
set_option maxRecDepth 100000
open Go.ChangeShapes Go.WideShapes Go.ChangeAt Go.RowKit
open Ar Rg St
theorem placeCmp_at (x : Itm) (k : ByteArray) (c : Int) (hc : icf x k = c) (w : World) :
    Calls Tryz.prog 128 #[.agg #[.string x.k, .string x.v], .string k] w fun e w' => e = .returned (.int .i64 c) ∧ Below w.heap.size w w' := by
  subst hc
  exact placeCmp_any x k w
theorem icf_lt (x : Itm) (k : ByteArray) : icf x k < 0 ↔ lt (key x) k.data.toList = true := By.cmp_lt _ _
theorem icf_eq (x : Itm) (k : ByteArray) : icf x k = 0 ↔ key x = k.data.toList := By.cmp_eq _ _
theorem found_at {D : List Itm} {k : ByteArray} {p : Nat} {y : Itm} (h : D[p]? = some y) : found D k p = decide (key y = k.data.toList) := by unfold found; rw [h]
theorem found_out {D : List Itm} {k : ByteArray} {p : Nat} (h : D.length ≤ p) : found D k p = false := by unfold found; rw [List.getElem?_eq_none h]
set_option maxRecDepth 100000 in
set_option maxHeartbeats 1000000 in
theorem search_any (D : List Itm) (k : ByteArray) (A : Option Addr) (n cap B : Nat) (hn : n = D.length) (hm : n ≤ 281474976710656) (hs : Srt key lt D) (w : World) (hB : B ≤ w.heap.size) (hD : Ls enc 2 w B A D) :
    Calls Tryz.prog 127 #[.slice A n cap, .string k, .func (.func 128) #[] #[]] w fun e w' => ∃ p : Nat, At D k p ∧ e = .returned (.tuple #[.int .i64 p, .bool (found D k p)]) ∧ Below w.heap.size w w' := by
  have HN := Lib.hid hn
  have HD := Lib.hid hD
  have HS := Lib.hid hs
  clear hn hD hs
  go_enter Tryz.func127, Tryz.ntmps127
  go_wp2_with fail
  go_loopw [9, 10] (fun v u wr => ∃ lo hi : Nat, v = .int .i64 lo ∧ u = .int .i64 hi ∧ Hid (Sc.Bs (GI D k) 0 n lo hi) ∧ Hid (Below w.heap.size w wr)) (fun v u _ => (intOf u).toNat - (intOf v).toNat)
  case atStart => exact ⟨0, n, by go_num, by go_num, Sc.Bs.start _ (Nat.zero_le _), Below.refl _ _⟩
  case round =>
    obtain ⟨lo, hi, rfl, rfl, hbs, hbel⟩ := hrel
    obtain ⟨_, n2, n3, _⟩ := Hid.out hbs
    have hL := HD.out.below ((Hid.out hbel).mono hB)
    by_cases hlt : lo < hi
    · obtain ⟨h, hh⟩ : ∃ h : Nat, ((lo : Int) + (hi : Int)) / 2 = (h : Int) := ⟨(lo + hi) / 2, by omega⟩
      have n4 : lo ≤ h := by omega
      have n5 : h < hi := by omega
      have n6 : (0 : Int) ≤ (h : Int) := by omega
      have n7 : (h : Int) < (n : Int) := by omega
      obtain ⟨z, hz⟩ : ∃ z, D[h]? = some z := ⟨_, List.getElem?_eq_getElem (by rw [← HN.out]; omega)⟩
      obtain ⟨b, o, hAe, hb, hr⟩ := hL h z hz
      have hbl : b < wr.heap.size := Nat.lt_of_lt_of_le hb (Nat.le_trans hB (Hid.out hbel).size)
      have hc0 : wr.cell? ⟨b, o + h * 2, none⟩ = some (.string z.k) := hr 0 _ rfl
      have hc1 : wr.cell? ⟨b, o + h * 2 + 1, none⟩ = some (.string z.v) := hr 1 _ rfl
      clear hL hr
      subst hAe
      obtain ⟨c, hcf⟩ : ∃ c, icf z k = c := ⟨_, rfl⟩
      have hcl := icf_lt z k
      rw [hcf] at hcl
      have HCF := Lib.hid hcf
      by_cases hlk : lt (key z) k.data.toList = true
      · have hc : c < 0 := hcl.2 hlk
        have HUP := Lib.hid ((Hid.out hbs).up n4 n5 (by rw [GI_at hz, hlk]; rfl))
        clear hcl hcf hbs hz hlk
        go_wp2_with (go_at_call 128; refine (placeCmp_at z k c HCF.out _).mono ?_; rintro e w1 ⟨rfl, hb1⟩; have HB1 := Lib.hid ((Hid.out hbel).trans (hb1.mono (Hid.out hbel).size)); clear hb1)
        exact ⟨⟨h + 1, hi, by go_num, rfl, HUP.out, HB1.out⟩, by simp [intOf] <;> omega⟩
      · have hc : 0 ≤ c := by
          have : ¬ c < 0 := fun e => hlk (hcl.1 e)
          omega
        have HDN := Lib.hid ((Hid.out hbs).down n4 n5 (by rw [GI_at hz]; simp only [hlk]; rfl))
        clear hcl hcf hbs hz hlk
        go_wp2_with (go_at_call 128; refine (placeCmp_at z k c HCF.out _).mono ?_; rintro e w1 ⟨rfl, hb1⟩; have HB1 := Lib.hid ((Hid.out hbel).trans (hb1.mono (Hid.out hbel).size)); clear hb1)
        exact ⟨⟨lo, h, rfl, rfl, HDN.out, HB1.out⟩, by simp [intOf] <;> omega⟩
    · obtain rfl : lo = hi := by omega
      have HAT := Lib.hid (at_of HS.out (by have := Hid.out hbs; rw [HN.out] at this; exact this))
      clear hbs
      by_cases hp : lo < n
      · obtain ⟨z, hz⟩ : ∃ z, D[lo]? = some z := ⟨_, List.getElem?_eq_getElem (by rw [← HN.out]; omega)⟩
        obtain ⟨b, o, hAe, hb, hr⟩ := hL lo z hz
        have hbl : b < wr.heap.size := Nat.lt_of_lt_of_le hb (Nat.le_trans hB (Hid.out hbel).size)
        have hc0 : wr.cell? ⟨b, o + lo * 2, none⟩ = some (.string z.k) := hr 0 _ rfl
        have hc1 : wr.cell? ⟨b, o + lo * 2 + 1, none⟩ = some (.string z.v) := hr 1 _ rfl
        clear hL hr
        subst hAe
        obtain ⟨c, hcf⟩ : ∃ c, icf z k = c := ⟨_, rfl⟩
        have hce := icf_eq z k
        rw [hcf] at hce
        have HF := Lib.hid (show found D k lo = (c == 0) by rw [found_at hz, Bool.eq_iff_iff]; simp [hce])
        have HCF := Lib.hid hcf
        clear hcf hce hz
        go_wp2_with (go_at_call 128; refine (placeCmp_at z k c HCF.out _).mono ?_; rintro e w1 ⟨rfl, hb1⟩; have HB1 := Lib.hid ((Hid.out hbel).trans (hb1.mono (Hid.out hbel).size)); clear hb1)
        go_ret2
        exact ⟨lo, HAT.out, by rw [HF.out]; rfl, HB1.out⟩
      · have HF := Lib.hid (found_out (D := D) (k := k) (p := lo) (by rw [← HN.out]; omega))
        clear hL
        go_wp2
        go_ret2
        exact ⟨lo, HAT.out, by rw [HF.out]; rfl, Hid.out hbel⟩
theorem place_any (D : List Itm) (k : ByteArray) (A : Option Addr) (n cap B : Nat) (hn : n = D.length) (hm : n ≤ 281474976710656) (hs : Srt key lt D) (w : World) (hB : B ≤ w.heap.size) (hD : Ls enc 2 w B A D) :
    Calls Tryz.prog 82 #[.slice A n cap, .string k] w fun e w' => ∃ p : Nat, At D k p ∧ e = .returned (.tuple #[.int .i64 p, .bool (found D k p)]) ∧ Below w.heap.size w w' := by
  have HC := Lib.hid (search_any D k A n cap B hn hm hs w hB hD)
  clear hn hs hD
  go_enter Tryz.func82, Tryz.ntmps82
  go_wp2_with (go_at_call 127; refine HC.out.mono ?_; rintro e w1 ⟨p, hp, rfl, hb1⟩; have HP := Lib.hid hp; have HB1 := Lib.hid hb1; clear hp hb1)
  go_ret2
  exact ⟨p, HP.out, rfl, HB1.out⟩
end Go.Proofs.YtjkmfonngbendaaGreatDoor.It
/- A right list rises by key; contract of package item's Get. -/
namespace Go.Proofs.YtjkmfonngbendaaGreatDoor.It
set_option linter.unusedVariables false
set_option maxRecDepth 100000
open Go.ChangeShapes Go.WideShapes Go.ChangeAt Go.RowKit
open Ar Rg St
/-- a list that rises by key, no key twice -/
def Up (D : List Itm) : Prop := D.Pairwise fun a b => lt (key a) (key b) = true
theorem rtFrom_some : ∀ (D : List Itm) (y : Itm), rtFrom (some y) D = true → (∀ x ∈ D, lt (key y) (key x) = true) ∧ Up D ∧ ∀ x ∈ D, okI x = true
  | [], y, _ => ⟨by simp, List.Pairwise.nil, by simp⟩
  | x :: r, y, h => by
    have h' : (okI x && (By.bl (key y) (key x) && rtFrom (some x) r)) = true := h
    rw [Bool.and_eq_true, Bool.and_eq_true] at h'
    obtain ⟨h1, h2, h3⟩ := rtFrom_some r x h'.2.2
    refine ⟨?_, List.pairwise_cons.2 ⟨h1, h2⟩, ?_⟩
    · intro z hz
      rcases List.mem_cons.1 hz with rfl | hz
      · exact h'.2.1
      · exact O.trans _ _ _ h'.2.1 (h1 z hz)
    · intro z hz
      rcases List.mem_cons.1 hz with rfl | hz
      · exact h'.1
      · exact h3 z hz
theorem rt_up {D : List Itm} (h : rt D = true) : Up D ∧ ∀ x ∈ D, okI x = true := by
  cases D with
  | nil => exact ⟨List.Pairwise.nil, by simp⟩
  | cons x r =>
    have h' : (okI x && rtFrom (some x) r) = true := h
    rw [Bool.and_eq_true] at h'
    obtain ⟨h1, h2, h3⟩ := rtFrom_some r x h'.2
    refine ⟨List.pairwise_cons.2 ⟨h1, h2⟩, ?_⟩
    intro z hz
    rcases List.mem_cons.1 hz with rfl | hz
    · exact h'.1
    · exact h3 z hz
theorem Up.srt {D : List Itm} (h : Up D) : Srt key lt D := List.Pairwise.imp (fun hab => O.asymm _ _ hab) h
/-- what a right list has by a key -/
def get (D : List Itm) (k : ByteArray) : Option ByteArray := (D.find? fun x => decide (key x = k.data.toList)).map (·.v)
theorem get_found {D : List Itm} {k : ByteArray} {p : Nat} {y : Itm} (h : At D k p) (hy : D[p]? = some y) (hf : key y = k.data.toList) : get D k = some y.v := by
  obtain ⟨hp, h1, h2⟩ := h
  have e : D = D.take p ++ y :: D.drop (p + 1) := by rw [← drop_at hy, List.take_append_drop]
  unfold get
  rw [e, List.find?_append]
  have hn : (D.take p).find? (fun x => decide (key x = k.data.toList)) = none := by
    rw [List.find?_eq_none]
    intro x hx
    have := O.ne (h1 x hx)
    simpa using this
  rw [hn, Option.none_or, List.find?_cons_of_pos (by simpa using hf)]
  rfl
theorem get_none {D : List Itm} {k : ByteArray} {p : Nat} (hu : Up D) (h : At D k p) (hf : found D k p = false) : get D k = none := by
  obtain ⟨hp, h1, h2⟩ := h
  unfold get
  rw [Option.map_eq_none_iff, List.find?_eq_none]
  intro x hx
  rw [← List.take_append_drop p D] at hx
  rcases List.mem_append.1 hx with hx | hx
  · have := O.ne (h1 x hx)
    simpa using this
  · rcases Nat.lt_or_ge p D.length with hl | hl
    · have hz : D[p]? = some (D[p]'hl) := List.getElem?_eq_getElem _
      rw [found_at hz, decide_eq_false_iff_not] at hf
      have e := drop_at hz
      have hu2 : Up (D.drop p) := List.Pairwise.sublist (List.drop_sublist _ _) hu
      rw [e] at hx hu2
      have hge := h2 D[p] (by rw [e]; exact List.mem_cons_self)
      rcases List.mem_cons.1 hx with rfl | hx
      · simpa using hf
      · have hlt := (List.pairwise_cons.1 hu2).1 x hx
        have hk : lt k.data.toList (key D[p]) = true := by
          cases h3 : lt k.data.toList (key D[p])
          · exact absurd (O.tri _ _ hge h3) hf
          · rfl
        have := O.ne (O.trans _ _ _ hk hlt)
        simp only [decide_eq_true_eq]
        exact fun e => this e.symm
    · rw [List.drop_eq_nil_of_le hl] at hx
      cases hx
def getV (r : Bool) (o : Option ByteArray) : Value :=
  if r then (match o with | some v => .tuple #[.string v, .int .i64 0] | none => .tuple #[.string { data := #[] }, .int .i64 5]) else .tuple #[.string { data := #[] }, .int .i64 4]
end Go.Proofs.YtjkmfonngbendaaGreatDoor.It
/- Contract of the document's find: where a key is, looked for from the front. -/
namespace Go.Proofs.YtjkmfonngbendaaGreatDoor.It
set_option linter.unusedVariables false
set_option maxRecDepth 100000
open Go.ChangeShapes Go.WideShapes Go.ChangeAt Go.RowKit
open Ar Rg St
def No (D : List Itm) (k : ByteArray) (i : Nat) : Prop := ∀ y ∈ D.take i, key y ≠ k.data.toList
theorem No.zero (D : List Itm) (k : ByteArray) : No D k 0 := by intro y hy; simp at hy
theorem No.more {D : List Itm} {k : ByteArray} {i : Nat} {x : Itm} (h : No D k i) (hx : D[i]? = some x) (hk : key x ≠ k.data.toList) : No D k (i + 1) := by
  intro y hy
  have e : D.take (i + 1) = D.take i ++ [x] := by rw [List.take_add_one, hx]; rfl
  rw [e] at hy
  rcases List.mem_append.1 hy with hy | hy
  · exact h y hy
  · simp at hy; subst hy; exact hk
theorem No.get_none {D : List Itm} {k : ByteArray} {i : Nat} (h : No D k i) (hi : D.length ≤ i) : get D k = none := by
  unfold get
  rw [Option.map_eq_none_iff, List.find?_eq_none]
  intro x hx
  have := h x (by rw [List.take_of_length_le hi]; exact hx)
  simpa using this
theorem No.get_some {D : List Itm} {k : ByteArray} {i : Nat} {x : Itm} (h : No D k i) (hx : D[i]? = some x) (hk : key x = k.data.toList) : get D k = some x.v := by
  have e : D = D.take i ++ x :: D.drop (i + 1) := by rw [← drop_at hx, List.take_append_drop]
  unfold get
  rw [e, List.find?_append]
  have hn : (D.take i).find? (fun x => decide (key x = k.data.toList)) = none := by
    rw [List.find?_eq_none]
    intro y hy
    have := h y hy
    simpa using this
  rw [hn, Option.none_or, List.find?_cons_of_pos (by simpa using hk)]
  rfl
theorem str_eq (a b : ByteArray) : (a.toList == b.toList) = decide (a.data.toList = b.data.toList) := by
  rw [ByteArray.toList_eq, ByteArray.toList_eq, Bool.eq_iff_iff]
  simp
/-- -1 and none, or a place and what is there -/
def FindV (D : List Itm) (k : ByteArray) (v : Int) : Prop := (v = -1 ∧ get D k = none) ∨ ∃ (p : Nat) (y : Itm), v = p ∧ D[p]? = some y ∧ get D k = some y.v
end Go.Proofs.YtjkmfonngbendaaGreatDoor.It
/- Plain mathematics of items and changes by key: what a list is with changes done, what two lists are apart, what is under a prefix. No word of the program here. -/
namespace Go.Proofs.YtjkmfonngbendaaGreatDoor.It
set_option linter.unusedVariables false
set_option maxRecDepth 100000
open Ar Rg St
abbrev Ch := Sc.Ch
abbrev ckey (c : Ch) : List UInt8 := Sc.key c
section
variable {α : Type} {key : α → List UInt8}
def UpK (key : α → List UInt8) (D : List α) : Prop := D.Pairwise fun a b => lt (key a) (key b) = true
theorem up_ext {A B : List α} (hA : UpK key A) (hB : UpK key B) (h : ∀ x, x ∈ A ↔ x ∈ B) : A = B := by
  induction A generalizing B with
  | nil =>
    cases B with
    | nil => rfl
    | cons y B => exact absurd ((h y).2 List.mem_cons_self) (List.not_mem_nil)
  | cons x A ih =>
    cases B with
    | nil => exact absurd ((h x).1 List.mem_cons_self) (List.not_mem_nil)
    | cons y B =>
      obtain ⟨a1, a2⟩ := List.pairwise_cons.1 hA
      obtain ⟨b1, b2⟩ := List.pairwise_cons.1 hB
      have e : x = y := by
        rcases List.mem_cons.1 ((h x).1 List.mem_cons_self) with e | e
        · exact e
        · rcases List.mem_cons.1 ((h y).2 List.mem_cons_self) with e' | e'
          · exact e'.symm
          · have h1 := b1 x e
            have h2 := a1 y e'
            rw [O.asymm _ _ h1] at h2; cases h2
      subst e
      rw [ih a2 b2 fun z => ?_]
      constructor
      · intro hz
        rcases List.mem_cons.1 ((h z).1 (List.mem_cons_of_mem _ hz)) with e | e
        · subst e; have := a1 z hz; rw [O.irrefl] at this; cases this
        · exact e
      · intro hz
        rcases List.mem_cons.1 ((h z).2 (List.mem_cons_of_mem _ hz)) with e | e
        · subst e; have := b1 z hz; rw [O.irrefl] at this; cases this
        · exact e
theorem up_inj {D : List α} (h : UpK key D) {x y : α} (hx : x ∈ D) (hy : y ∈ D) (e : key x = key y) : x = y := by
  induction D with
  | nil => cases hx
  | cons z D ih =>
    obtain ⟨h1, h2⟩ := List.pairwise_cons.1 h
    rcases List.mem_cons.1 hx with e1 | h3 <;> rcases List.mem_cons.1 hy with e2 | h4
    · rw [e1, e2]
    · have := h1 y h4; rw [← e1, e, O.irrefl] at this; cases this
    · have := h1 x h3; rw [← e2, e, O.irrefl] at this; cases this
    · exact ih h2 h3 h4
theorem UpK.sub {A D : List α} (h : UpK key D) (hs : A.Sublist D) : UpK key A := List.Pairwise.sublist hs h
theorem UpK.cons {x : α} {D : List α} : UpK key (x :: D) ↔ (∀ y ∈ D, lt (key x) (key y) = true) ∧ UpK key D := List.pairwise_cons
theorem UpK.append {A B : List α} : UpK key (A ++ B) ↔ UpK key A ∧ UpK key B ∧ ∀ x ∈ A, ∀ y ∈ B, lt (key x) (key y) = true := List.pairwise_append
theorem UpK.nil : UpK key ([] : List α) := List.Pairwise.nil
theorem UpK.one (x : α) : UpK key [x] := List.pairwise_singleton _ _
end
theorem le_ne {a b : List UInt8} (h : lt a b = false) (hn : a ≠ b) : lt b a = true := by
  cases h2 : lt b a
  · exact absurd (O.tri _ _ h h2) hn
  · rfl
/-! ## a change done -/
def itm (c : Ch) : Itm := ⟨c.k, c.v⟩
theorem key_itm (c : Ch) : key (itm c) = ckey c := rfl
def donL (c : Ch) : Bool → List Itm → List Itm
  | put, [] => if put then [] else [itm c]
  | put, x :: r => (if !put && !lt (key x) (ckey c) then [itm c] else []) ++ ((if key x = ckey c then [] else [x]) ++ donL c (put || !lt (key x) (ckey c)) r)
def don (c : Ch) (D : List Itm) : List Itm := donL c (!c.h) D
theorem mem_donL (c : Ch) (x : Itm) : ∀ (D : List Itm) (put : Bool), x ∈ donL c put D ↔ (x ∈ D ∧ key x ≠ ckey c) ∨ (put = false ∧ x = itm c)
  | [], put => by cases put <;> simp [donL]
  | y :: r, put => by
    rw [donL, List.mem_append, List.mem_append, mem_donL c x r]
    by_cases h1 : lt (key y) (ckey c) = true
    · have h2 := O.ne h1
      rw [h1, if_neg h2]
      cases put <;> simp
      · constructor
        · rintro (rfl | h | h)
          · exact .inl ⟨.inl rfl, h2⟩
          · exact .inl ⟨.inr h.1, h.2⟩
          · exact .inr h
        · rintro (⟨rfl | h, h'⟩ | h)
          · exact .inl rfl
          · exact .inr (.inl ⟨h, h'⟩)
          · exact .inr (.inr h)
      · constructor
        · rintro (rfl | h)
          · exact ⟨.inl rfl, h2⟩
          · exact ⟨.inr h.1, h.2⟩
        · rintro ⟨rfl | h, h'⟩
          · exact .inl rfl
          · exact .inr ⟨h, h'⟩
    · have h1 : lt (key y) (ckey c) = false := by simpa using h1
      rw [h1]
      by_cases h2 : key y = ckey c
      · rw [if_pos h2]
        cases put <;> simp
        · constructor
          · rintro (h | h)
            · exact .inr h
            · exact .inl ⟨.inr h.1, h.2⟩
          · rintro (⟨rfl | h, h'⟩ | h)
            · exact absurd h2 h'
            · exact .inr ⟨h, h'⟩
            · exact .inl h
        · intro h e
          exact absurd (e ▸ h2) h
      · rw [if_neg h2]
        cases put <;> simp
        · constructor
          · rintro (h | rfl | h)
            · exact .inr h
            · exact .inl ⟨.inl rfl, h2⟩
            · exact .inl ⟨.inr h.1, h.2⟩
          · rintro (⟨rfl | h, h'⟩ | h)
            · exact .inr (.inl rfl)
            · exact .inr (.inr ⟨h, h'⟩)
            · exact .inl h
        · constructor
          · rintro (rfl | h)
            · exact ⟨.inl rfl, h2⟩
            · exact ⟨.inr h.1, h.2⟩
          · rintro ⟨rfl | h, h'⟩
            · exact .inl rfl
            · exact .inr ⟨h, h'⟩
theorem mem_don (c : Ch) (x : Itm) (D : List Itm) : x ∈ don c D ↔ (x ∈ D ∧ key x ≠ ckey c) ∨ (c.h = true ∧ x = itm c) := by
  unfold don
  rw [mem_donL]
  simp
theorem donL_true (c : Ch) : ∀ D : List Itm, donL c true D = D.filter fun x => decide (key x ≠ ckey c)
  | [] => rfl
  | x :: r => by
    rw [donL, Bool.true_or, donL_true c r, List.filter_cons]
    by_cases h : key x = ckey c <;> simp [h]
theorem up_donL (c : Ch) : ∀ (D : List Itm) (put : Bool), UpK key D → UpK key (donL c put D)
  | D, true, h => by rw [donL_true]; exact h.sub List.filter_sublist
  | [], false, _ => UpK.one _
  | x :: r, false, h => by
    obtain ⟨h1, h2⟩ := UpK.cons.1 h
    rw [donL]
    by_cases hl : lt (key x) (ckey c) = true
    · rw [hl, if_neg (O.ne hl)]
      refine UpK.cons.2 ⟨fun y hy => ?_, up_donL c r false h2⟩
      rcases (mem_donL c y r false).1 hy with ⟨h3, _⟩ | ⟨_, rfl⟩
      · exact h1 y h3
      · exact hl
    · have hl : lt (key x) (ckey c) = false := by simpa using hl
      rw [hl]
      have e : (if key x = ckey c then [] else [x]) ++ donL c (false || !false) r = (x :: r).filter fun x => decide (key x ≠ ckey c) := by
        rw [← donL_true, donL]; rfl
      rw [e]
      refine UpK.cons.2 ⟨fun y hy => ?_, h.sub List.filter_sublist⟩
      obtain ⟨hy, hne⟩ := List.mem_filter.1 hy
      have hne : key y ≠ ckey c := by simpa using hne
      refine le_ne ?_ hne
      show lt (key y) (ckey c) = false
      rcases List.mem_cons.1 hy with rfl | hy
      · exact hl
      · cases h3 : lt (key y) (ckey c)
        · rfl
        · have := O.trans _ _ _ (h1 y hy) h3
          rw [hl] at this; cases this
theorem up_don (c : Ch) {D : List Itm} (h : UpK key D) : UpK key (don c D) := up_donL c D _ h
/-! ## changes done -/
def app (D : List Itm) (C : List Ch) : List Itm := C.foldl (fun D c => don c D) D
theorem app_nil (D : List Itm) : app D [] = D := rfl
theorem app_cons (D : List Itm) (c : Ch) (C : List Ch) : app D (c :: C) = app (don c D) C := rfl
theorem app_snoc (D : List Itm) (C : List Ch) (c : Ch) : app D (C ++ [c]) = don c (app D C) := by unfold app; rw [List.foldl_append]; rfl
theorem app_append (D : List Itm) (C C' : List Ch) : app D (C ++ C') = app (app D C) C' := by unfold app; rw [List.foldl_append]
theorem up_app {D : List Itm} (C : List Ch) (h : UpK key D) : UpK key (app D C) := by
  induction C generalizing D with
  | nil => exact h
  | cons c C ih => exact ih (up_don c h)
/-- c is the last of its key in C -/
def Lst (C : List Ch) (c : Ch) : Prop := (C.filter fun d => ckey d = ckey c).getLast? = some c
theorem Lst.mem {C : List Ch} {c : Ch} (h : Lst C c) : c ∈ C := (List.mem_filter.1 (List.mem_of_getLast? h)).1
theorem Lst.snoc {C : List Ch} {c d : Ch} : Lst (C ++ [d]) c ↔ (d = c) ∨ (ckey d ≠ ckey c ∧ Lst C c) := by
  unfold Lst
  rw [List.filter_append]
  by_cases h : ckey d = ckey c
  · rw [List.filter_cons_of_pos (by simpa using h), List.filter_nil, List.getLast?_concat]
    simp [h]
  · rw [List.filter_cons_of_neg (by simpa using h), List.filter_nil, List.append_nil]
    constructor
    · intro hl; exact .inr ⟨h, hl⟩
    · rintro (rfl | hl)
      · exact absurd rfl h
      · exact hl.2
theorem mem_app (D : List Itm) (x : Itm) (C : List Ch) : x ∈ app D C ↔ (x ∈ D ∧ ∀ c ∈ C, ckey c ≠ key x) ∨ ∃ c, Lst C c ∧ c.h = true ∧ x = itm c := by
  suffices H : ∀ R : List Ch, x ∈ app D R.reverse ↔ (x ∈ D ∧ ∀ c ∈ R.reverse, ckey c ≠ key x) ∨ ∃ c, Lst R.reverse c ∧ c.h = true ∧ x = itm c by
    have := H C.reverse
    rwa [List.reverse_reverse] at this
  intro R
  induction R with
  | nil => simp [app, Lst]
  | cons d R ih =>
    rw [List.reverse_cons, app_snoc, mem_don, ih]
    constructor
    · rintro (⟨⟨h1, h2⟩ | ⟨c, h1, h2, rfl⟩, h3⟩ | ⟨h1, rfl⟩)
      · refine .inl ⟨h1, fun c hc => ?_⟩
        rcases List.mem_append.1 hc with hc | hc
        · exact h2 c hc
        · simp at hc; subst hc; exact fun e => h3 e.symm
      · exact .inr ⟨c, Lst.snoc.2 (.inr ⟨fun e => h3 e.symm, h1⟩), h2, rfl⟩
      · exact .inr ⟨d, Lst.snoc.2 (.inl rfl), h1, rfl⟩
    · rintro (⟨h1, h2⟩ | ⟨c, h1, h2, rfl⟩)
      · exact .inl ⟨.inl ⟨h1, fun c hc => h2 c (List.mem_append_left _ hc)⟩, fun e => h2 d (by simp) e.symm⟩
      · rcases Lst.snoc.1 h1 with rfl | ⟨h3, h4⟩
        · exact .inr ⟨h2, rfl⟩
        · exact .inl ⟨.inr ⟨c, h4, h2, rfl⟩, fun e => h3 e.symm⟩
theorem up_lst {C : List Ch} (h : UpK Sc.key C) (c : Ch) : Lst C c ↔ c ∈ C := by
  constructor
  · exact Lst.mem
  · intro hc
    unfold Lst
    have e : C.filter (fun d => ckey d = ckey c) = [c] := by
      refine up_ext (key := Sc.key) (h.sub List.filter_sublist) (UpK.one c) fun d => ?_
      rw [List.mem_filter, List.mem_singleton]
      constructor
      · rintro ⟨h1, h2⟩; exact up_inj h h1 hc (by simpa using h2)
      · rintro rfl; exact ⟨hc, by simp⟩
    rw [e]; rfl
theorem app_same {D : List Itm} {C L : List Ch} (hD : UpK key D) (h : ∀ c, Lst L c ↔ Lst C c) : app D L = app D C := by
  refine up_ext (up_app _ hD) (up_app _ hD) fun x => ?_
  have hk : ∀ (C L : List Ch), (∀ c, Lst L c ↔ Lst C c) → (∀ c ∈ C, ckey c ≠ key x) → ∀ c ∈ L, ckey c ≠ key x := by
    intro C L h hC c hc e
    have hne : (L.filter fun d => ckey d = ckey c) ≠ [] := by
      intro h0
      have := List.filter_eq_nil_iff.1 h0 c hc
      simp at this
    obtain ⟨d, hd⟩ : ∃ d, (L.filter fun d => ckey d = ckey c).getLast? = some d := by
      cases h1 : (L.filter fun d => ckey d = ckey c).getLast? with
      | none => exact absurd (List.getLast?_eq_none_iff.1 h1) hne
      | some d => exact ⟨d, rfl⟩
    have hdk : ckey d = ckey c := by simpa using (List.mem_filter.1 (List.mem_of_getLast? hd)).2
    have hl : Lst L d := by unfold Lst; rw [hdk]; exact hd
    exact hC d ((h d).1 hl).mem (hdk.trans e)
  rw [mem_app, mem_app]
  constructor
  · rintro (⟨h1, h2⟩ | ⟨c, h1, h2⟩)
    · exact .inl ⟨h1, hk L C (fun c => (h c).symm) h2⟩
    · exact .inr ⟨c, (h c).1 h1, h2⟩
  · rintro (⟨h1, h2⟩ | ⟨c, h1, h2⟩)
    · exact .inl ⟨h1, hk C L h h2⟩
    · exact .inr ⟨c, (h c).2 h1, h2⟩
/-- the program's way: what is ahead of the change's place, the change, the rest -/
theorem app_step {D : List Itm} {c : Ch} {L : List Ch} {p : Nat} (hD : UpK key D) (hL : UpK Sc.key (c :: L)) (hp : At D c.k p) :
    app D (c :: L) = (D.take p ++ (if c.h then [itm c] else [])) ++ app (D.drop (p + if found D c.k p then 1 else 0)) L := by
  obtain ⟨hp1, hp2, hp3⟩ := hp
  obtain ⟨hl1, hl2⟩ := UpK.cons.1 hL
  have hk : c.k.data.toList = ckey c := rfl
  rw [hk] at hp2 hp3
  have hdrop : ∀ x ∈ D.drop (p + if found D c.k p then 1 else 0), x ∈ D.drop p ∧ lt (ckey c) (key x) = true := by
    intro x hx
    rcases Nat.lt_or_ge p D.length with hlt | hge
    · have hz : D[p]? = some (D[p]'hlt) := List.getElem?_eq_getElem _
      rw [found_at hz] at hx
      have e := drop_at hz
      have hu : UpK key (D.drop p) := hD.sub (List.drop_sublist _ _)
      rw [e] at hu
      have hge := hp3 D[p] (by rw [e]; exact List.mem_cons_self)
      by_cases hf : key D[p] = c.k.data.toList
      · rw [decide_eq_true hf, if_pos rfl] at hx
        refine ⟨by rw [e]; exact List.mem_cons_of_mem _ hx, ?_⟩
        have := (UpK.cons.1 hu).1 x hx
        rw [hf] at this; exact this
      · rw [decide_eq_false hf, if_neg (by simp), Nat.add_zero] at hx
        refine ⟨hx, ?_⟩
        have h0 := le_ne hge hf
        rw [e] at hx
        rcases List.mem_cons.1 hx with rfl | hx
        · exact h0
        · exact O.trans _ _ _ h0 ((UpK.cons.1 hu).1 x hx)
    · rw [List.drop_eq_nil_of_le (by omega)] at hx; cases hx
  have hdrop2 : ∀ x ∈ D.drop p, key x ≠ ckey c → x ∈ D.drop (p + if found D c.k p then 1 else 0) := by
    intro x hx hne
    rcases Nat.lt_or_ge p D.length with hlt | hge
    · have hz : D[p]? = some (D[p]'hlt) := List.getElem?_eq_getElem _
      rw [found_at hz]
      by_cases hf : key D[p] = c.k.data.toList
      · rw [decide_eq_true hf, if_pos rfl]
        rw [drop_at hz] at hx
        rcases List.mem_cons.1 hx with rfl | hx
        · exact absurd hf hne
        · exact hx
      · rw [decide_eq_false hf, if_neg (by simp), Nat.add_zero]; exact hx
    · rw [List.drop_eq_nil_of_le (by omega)] at hx; cases hx
  have htail : ∀ x ∈ app (D.drop (p + if found D c.k p then 1 else 0)) L, lt (ckey c) (key x) = true := by
    intro x hx
    rcases (mem_app _ x L).1 hx with ⟨h1, _⟩ | ⟨d, h1, _, rfl⟩
    · exact (hdrop x h1).2
    · exact hl1 d h1.mem
  have hhead : ∀ x ∈ D.take p ++ (if c.h then [itm c] else []), x ∈ D.take p ∨ (c.h = true ∧ x = itm c) := by
    intro x hx
    rcases List.mem_append.1 hx with hx | hx
    · exact .inl hx
    · by_cases h : c.h = true
      · rw [if_pos h] at hx; exact .inr ⟨h, by simpa using hx⟩
      · rw [if_neg h] at hx; cases hx
  refine up_ext (up_app _ hD) ?_ fun x => ?_
  · refine UpK.append.2 ⟨UpK.append.2 ⟨hD.sub (List.take_sublist _ _), ?_, ?_⟩, up_app _ (hD.sub (List.drop_sublist _ _)), ?_⟩
    · split
      · exact UpK.one _
      · exact UpK.nil
    · intro x hx y hy
      by_cases h : c.h = true
      · rw [if_pos h] at hy
        simp at hy; subst hy
        exact hp2 x hx
      · rw [if_neg h] at hy; cases hy
    · intro x hx y hy
      rcases hhead x hx with h | ⟨_, rfl⟩
      · exact O.trans _ _ _ (hp2 x h) (htail y hy)
      · exact htail y hy
  · rw [mem_app, List.mem_append]
    constructor
    · rintro (⟨h1, h2⟩ | ⟨d, h1, h2, rfl⟩)
      · rw [← List.take_append_drop p D] at h1
        rcases List.mem_append.1 h1 with h1 | h1
        · exact .inl (List.mem_append_left _ h1)
        · refine .inr ((mem_app _ x L).2 (.inl ⟨hdrop2 x h1 (fun e => h2 c List.mem_cons_self e.symm), fun d hd => h2 d (List.mem_cons_of_mem _ hd)⟩))
      · have hm := (up_lst hL d).1 h1
        rcases List.mem_cons.1 hm with rfl | hm
        · exact .inl (List.mem_append_right _ (by rw [if_pos h2]; simp))
        · exact .inr ((mem_app _ _ L).2 (.inr ⟨d, (up_lst hl2 d).2 hm, h2, rfl⟩))
    · rintro (h1 | h1)
      · rcases hhead x h1 with h | ⟨h, rfl⟩
        · refine .inl ⟨List.mem_of_mem_take h, fun d hd e => ?_⟩
          have := hp2 x h
          rcases List.mem_cons.1 hd with rfl | hd
          · rw [e, O.irrefl] at this; cases this
          · have := O.trans _ _ _ this (hl1 d hd)
            rw [show Sc.key d = key x from e, O.irrefl] at this; cases this
        · exact .inr ⟨c, (up_lst hL c).2 List.mem_cons_self, h, rfl⟩
      · rcases (mem_app _ x L).1 h1 with ⟨h2, h3⟩ | ⟨d, h2, h3, rfl⟩
        · obtain ⟨h4, h5⟩ := hdrop x h2
          refine .inl ⟨List.mem_of_mem_drop h4, fun d hd => ?_⟩
          rcases List.mem_cons.1 hd with rfl | hd
          · exact O.ne h5
          · exact h3 d hd
        · exact .inr ⟨d, (up_lst hL d).2 (List.mem_cons_of_mem _ h2.mem), h3, rfl⟩
/-! ## of each key the last -/
def lasts : List Ch → List Ch
  | [] => []
  | c :: r => (match r with | [] => [c] | d :: _ => if ckey d = ckey c then [] else [c]) ++ lasts r
theorem lasts_mem : ∀ (S : List Ch) {c : Ch}, c ∈ lasts S → c ∈ S
  | [], c, h => by cases h
  | [a], c, h => by simpa [lasts] using h
  | a :: b :: r, c, h => by
    rw [lasts] at h
    rcases List.mem_append.1 h with h | h
    · split at h
      · cases h
      · simp at h; subst h; exact List.mem_cons_self
    · exact List.mem_cons_of_mem _ (lasts_mem (b :: r) h)
theorem lasts_spec : ∀ S : List Ch, Srt Sc.key lt S → UpK Sc.key (lasts S) ∧ ∀ c, c ∈ lasts S ↔ Lst S c
  | [], _ => ⟨UpK.nil, fun c => by simp [lasts, Lst]⟩
  | [a], _ => ⟨UpK.one a, fun c => by
      have : Lst [a] c ↔ _ := Lst.snoc (C := []) (d := a) (c := c)
      rw [this]
      constructor
      · intro h; left; have h : c = a := by simpa [lasts] using h
        exact h.symm
      · rintro (rfl | ⟨_, h⟩)
        · simp [lasts]
        · exact absurd h.mem List.not_mem_nil⟩
  | a :: b :: r, h => by
    obtain ⟨h1, h2⟩ := List.pairwise_cons.1 h
    obtain ⟨i1, i2⟩ := lasts_spec (b :: r) h2
    have hL : ∀ c, Lst (a :: b :: r) c ↔ Lst (b :: r) c ∨ (c = a ∧ ∀ d ∈ b :: r, ckey d ≠ ckey a) := by
      intro c
      unfold Lst
      by_cases hk : ckey a = ckey c
      · rw [List.filter_cons_of_pos (by simpa using hk)]
        by_cases hn : (b :: r).filter (fun d => ckey d = ckey c) = []
        · rw [hn]
          constructor
          · intro e
            simp at e
            subst e
            refine .inr ⟨rfl, fun d hd e => ?_⟩
            have := List.filter_eq_nil_iff.1 hn d hd
            simp at this; exact this e
          · rintro (e | ⟨rfl, _⟩)
            · cases e
            · rfl
        · rw [List.getLast?_cons_of_ne_nil hn]
          constructor
          · exact .inl
          · rintro (e | ⟨rfl, e⟩)
            · exact e
            · exact absurd (filter_none (key := Sc.key) (k := ckey c) e) hn
      · rw [List.filter_cons_of_neg (by simpa using hk)]
        constructor
        · exact .inl
        · rintro (e | ⟨rfl, _⟩)
          · exact e
          · exact absurd rfl hk
    rw [lasts]
    by_cases hab : ckey b = ckey a
    · rw [if_pos hab, List.nil_append]
      refine ⟨i1, fun c => ?_⟩
      rw [i2, hL]
      constructor
      · exact .inl
      · rintro (e | ⟨_, e⟩)
        · exact e
        · exact absurd hab (e b List.mem_cons_self)
    · rw [if_neg hab]
      have hlt : ∀ d ∈ b :: r, lt (ckey a) (ckey d) = true := by
        intro d hd
        have hb := h1 b List.mem_cons_self
        have hba : lt (ckey a) (ckey b) = true := le_ne hb hab
        rcases List.mem_cons.1 hd with rfl | hd
        · exact hba
        · exact O.lt_le hba ((List.pairwise_cons.1 h2).1 d hd)
      refine ⟨UpK.cons.2 ⟨fun d hd => hlt d (lasts_mem _ hd), i1⟩, fun c => ?_⟩
      rw [hL, List.mem_append, i2]
      constructor
      · rintro (e | e)
        · simp at e; subst e
          exact .inr ⟨rfl, fun d hd e => by have := O.ne (hlt d hd); exact this e.symm⟩
        · exact .inl e
      · rintro (e | ⟨rfl, _⟩)
        · exact .inr e
        · exact .inl (by simp)
theorem Lst.same {C C' : List Ch} (h : Sm Sc.key C C') (c : Ch) : Lst C c ↔ Lst C' c := by unfold Lst; rw [h (ckey c)]
theorem app_lasts {D : List Itm} {C S : List Ch} (hD : UpK key D) (hs : Srt Sc.key lt S) (hm : Sm Sc.key C S) : app D (lasts S) = app D C :=
  app_same hD fun c => by rw [up_lst (lasts_spec S hs).1, (lasts_spec S hs).2, Lst.same hm]
/-! ## right lists -/
theorem rt_of : ∀ {D : List Itm}, UpK key D → (∀ x ∈ D, okI x = true) → rt D = true := by
  have H : ∀ (D : List Itm) (y : Itm), UpK key (y :: D) → (∀ x ∈ D, okI x = true) → rtFrom (some y) D = true := by
    intro D
    induction D with
    | nil => intro y _ _; rfl
    | cons x r ih =>
      intro y h1 h2
      obtain ⟨h3, h4⟩ := UpK.cons.1 h1
      show (okI x && (By.bl (key y) (key x) && rtFrom (some x) r)) = true
      rw [h2 x List.mem_cons_self, ih x h4 fun z hz => h2 z (List.mem_cons_of_mem _ hz)]
      have := h3 x List.mem_cons_self
      simpa using this
  intro D h1 h2
  cases D with
  | nil => rfl
  | cons x r =>
    show (okI x && rtFrom (some x) r) = true
    rw [h2 x List.mem_cons_self, H r x h1 fun z hz => h2 z (List.mem_cons_of_mem _ hz)]
    rfl
theorem rt_iff {D : List Itm} : rt D = true ↔ UpK key D ∧ ∀ x ∈ D, okI x = true := ⟨rt_up, fun h => rt_of h.1 h.2⟩
theorem rc_iff {C : List Ch} : rc C = true ↔ ∀ c ∈ C, okC c = true := by unfold rc; rw [List.all_eq_true]
theorem okC_itm {c : Ch} (h : okC c = true) : okI (itm c) = true := by
  simp only [okC, Bool.and_eq_true] at h
  simp only [okI, itm, Bool.and_eq_true]
  exact ⟨h.1, h.2.1⟩
theorem rt_app {D : List Itm} {C : List Ch} (hD : rt D = true) (hC : rc C = true) : rt (app D C) = true := by
  obtain ⟨h1, h2⟩ := rt_iff.1 hD
  refine rt_of (up_app _ h1) fun x hx => ?_
  rcases (mem_app _ x C).1 hx with ⟨h3, _⟩ | ⟨c, h3, _, rfl⟩
  · exact h2 x h3
  · exact okC_itm (rc_iff.1 hC c h3.mem)
theorem app_twice {D : List Itm} (hD : UpK key D) (c : Ch) : app (app D [c]) [c] = app D [c] := by
  show don c (don c D) = don c D
  refine up_ext (up_don c (up_don c hD)) (up_don c hD) fun x => ?_
  rw [mem_don, mem_don]
  constructor
  · rintro (⟨h | h, h'⟩ | h)
    · exact .inl h
    · exact .inr h
    · exact .inr h
  · rintro (h | h)
    · exact .inl ⟨.inl h, h.2⟩
    · exact .inr h
/-! ## what a list has by a key -/
theorem get_iff {D : List Itm} (h : UpK key D) (k v : ByteArray) : get D k = some v ↔ (⟨k, v⟩ : Itm) ∈ D := by
  unfold get
  have hk : ∀ x : Itm, key x = k.data.toList → x.k = k := by
    intro x e
    have := Array.toList_inj.1 e
    exact ByteArray.ext this
  constructor
  · intro e
    obtain ⟨x, hx, rfl⟩ := Option.map_eq_some_iff.1 e
    have h1 := List.mem_of_find?_eq_some hx
    have h2 : key x = k.data.toList := by simpa using List.find?_some hx
    have h3 := hk x h2
    obtain ⟨xk, xv⟩ := x
    simp only at h3
    subst h3
    exact h1
  · intro hm
    cases hf : D.find? (fun x => decide (key x = k.data.toList)) with
    | none =>
      have := List.find?_eq_none.1 hf _ hm
      simp [key] at this
    | some y =>
      have h1 := List.mem_of_find?_eq_some hf
      have h2 : key y = k.data.toList := by simpa using List.find?_some hf
      have : y = ⟨k, v⟩ := up_inj h h1 hm h2
      subst this; rfl
/-- what is there by a key behind changes -/
def lastV (k : ByteArray) : Option ByteArray → List Ch → Option ByteArray
  | o, [] => o
  | o, c :: C => lastV k (if ckey c = k.data.toList then (if c.h then some c.v else none) else o) C
theorem get_don {D : List Itm} (h : UpK key D) (k : ByteArray) (c : Ch) : get (don c D) k = if ckey c = k.data.toList then (if c.h then some c.v else none) else get D k := by
  refine Option.ext fun v => ?_
  rw [get_iff (up_don c h), mem_don]
  have hk : ckey c = k.data.toList ↔ c.k = k := by
    constructor
    · intro e; exact ByteArray.ext (Array.toList_inj.1 e)
    · rintro rfl; rfl
  by_cases hc : ckey c = k.data.toList
  · rw [if_pos hc]
    have hc' := hk.1 hc
    have e1 : key (⟨k, v⟩ : Itm) = ckey c := hc.symm
    rw [e1]
    by_cases hh : c.h = true
    · rw [if_pos hh]
      constructor
      · rintro (⟨_, h'⟩ | ⟨_, e⟩)
        · exact absurd rfl h'
        · have : v = c.v := congrArg Itm.v e
          rw [this]
      · intro e
        cases e
        exact .inr ⟨hh, by rw [← hc']; rfl⟩
    · rw [if_neg hh]
      constructor
      · rintro (⟨_, h'⟩ | ⟨h', _⟩)
        · exact absurd rfl h'
        · exact absurd h' hh
      · intro e; cases e
  · rw [if_neg hc, get_iff h]
    constructor
    · rintro (⟨h', _⟩ | ⟨_, e⟩)
      · exact h'
      · exact absurd (hk.2 (congrArg Itm.k e).symm) hc
    · intro h'
      exact .inl ⟨h', fun e => hc e.symm⟩
theorem get_app (k : ByteArray) : ∀ (C : List Ch) {D : List Itm}, UpK key D → get (app D C) k = lastV k (get D k) C
  | [], D, _ => rfl
  | c :: C, D, h => by
    rw [app_cons, get_app k C (up_don c h), get_don h, lastV]
end Go.Proofs.YtjkmfonngbendaaGreatDoor.It
/- Plain mathematics of items: what two lists are apart, what is under a prefix. No word of the program here. -/
namespace Go.Proofs.YtjkmfonngbendaaGreatDoor.It
set_option linter.unusedVariables false
set_option maxRecDepth 100000
open Ar Rg St
/-! ## apart -/
def gone (x : Itm) : Ch := ⟨x.k, false, ByteArray.empty⟩
def there (x : Itm) : Ch := ⟨x.k, true, x.v⟩
def dif : List Itm → List Itm → List Ch
  | [], [] => []
  | a :: A, [] => gone a :: dif A []
  | [], b :: B => there b :: dif [] B
  | a :: A, b :: B =>
    if lt (key a) (key b) then gone a :: dif A (b :: B)
    else if lt (key b) (key a) then there b :: dif (a :: A) B
    else (if a.v.data.toList = b.v.data.toList then [] else [there b]) ++ dif A B
termination_by A B => A.length + B.length
theorem dif_nil (A : List Itm) : dif [] [] = [] := by rw [dif]
theorem dif_left (a : Itm) (A : List Itm) : dif (a :: A) [] = gone a :: dif A [] := by rw [dif]
theorem dif_right (b : Itm) (B : List Itm) : dif [] (b :: B) = there b :: dif [] B := by rw [dif]
theorem dif_lt {a b : Itm} (A B : List Itm) (h : lt (key a) (key b) = true) : dif (a :: A) (b :: B) = gone a :: dif A (b :: B) := by rw [dif, if_pos h]
theorem dif_gt {a b : Itm} (A B : List Itm) (h : lt (key b) (key a) = true) : dif (a :: A) (b :: B) = there b :: dif (a :: A) B := by
  rw [dif, if_neg (by rw [O.asymm _ _ h]; simp), if_pos h]
theorem dif_same {a b : Itm} (A B : List Itm) (h : key a = key b) (hv : a.v.data.toList = b.v.data.toList) : dif (a :: A) (b :: B) = dif A B := by
  rw [dif, h, O.irrefl, if_neg (by simp), if_neg (by simp), if_pos hv]; rfl
theorem dif_other {a b : Itm} (A B : List Itm) (h : key a = key b) (hv : a.v.data.toList ≠ b.v.data.toList) : dif (a :: A) (b :: B) = there b :: dif A B := by
  rw [dif, h, O.irrefl, if_neg (by simp), if_neg (by simp), if_neg hv]; rfl
theorem dif_len (A B : List Itm) : (dif A B).length ≤ A.length + B.length := by
  fun_induction dif A B with
  | case1 => simp
  | case2 a A ih => simp at ih ⊢; omega
  | case3 b B ih => simp at ih ⊢; omega
  | case4 a A b B h ih => simp at ih ⊢; omega
  | case5 a A b B h h' ih => simp at ih ⊢; omega
  | case6 a A b B h h' ih =>
    rw [List.length_append]
    have : (if a.v.data.toList = b.v.data.toList then [] else [there b]).length ≤ 1 := by split <;> simp
    simp only [List.length_cons]; omega
theorem itm_ext {a b : Itm} (h : key a = key b) (hv : a.v.data.toList = b.v.data.toList) : a = b := by
  obtain ⟨ak, av⟩ := a
  obtain ⟨bk, bv⟩ := b
  have h1 : ak = bk := ByteArray.ext (Array.toList_inj.1 h)
  have h2 : av = bv := ByteArray.ext (Array.toList_inj.1 hv)
  rw [h1, h2]
def InDif (A B : List Itm) (c : Ch) : Prop := (∃ x, x ∈ A ∧ c = gone x ∧ ∀ y ∈ B, key y ≠ key x) ∨ ∃ y, y ∈ B ∧ c = there y ∧ y ∉ A
theorem mem_dif (c : Ch) (A B : List Itm) (hA : UpK key A) (hB : UpK key B) : c ∈ dif A B ↔ InDif A B c := by
  unfold InDif
  fun_induction dif A B with
  | case1 => simp
  | case2 a A ih =>
    rw [List.mem_cons, ih (UpK.cons.1 hA).2 hB]
    simp
  | case3 b B ih =>
    rw [List.mem_cons, ih hA (UpK.cons.1 hB).2]
    simp
  | case4 a A b B h ih =>
    obtain ⟨a1, a2⟩ := UpK.cons.1 hA
    obtain ⟨b1, b2⟩ := UpK.cons.1 hB
    rw [List.mem_cons, ih a2 hB]
    have hlt : ∀ y ∈ b :: B, lt (key a) (key y) = true := by
      intro y hy
      rcases List.mem_cons.1 hy with rfl | hy
      · exact h
      · exact O.trans _ _ _ h (b1 y hy)
    constructor
    · rintro (rfl | ⟨x, h1, h2, h3⟩ | ⟨y, h1, h2, h3⟩)
      · exact .inl ⟨a, List.mem_cons_self, rfl, fun y hy e => O.ne (hlt y hy) e.symm⟩
      · exact .inl ⟨x, List.mem_cons_of_mem _ h1, h2, h3⟩
      · refine .inr ⟨y, h1, h2, fun hm => ?_⟩
        rcases List.mem_cons.1 hm with rfl | hm
        · exact O.ne (hlt y h1) rfl
        · exact h3 hm
    · rintro (⟨x, h1, h2, h3⟩ | ⟨y, h1, h2, h3⟩)
      · rcases List.mem_cons.1 h1 with rfl | h1
        · exact .inl h2
        · exact .inr (.inl ⟨x, h1, h2, h3⟩)
      · exact .inr (.inr ⟨y, h1, h2, fun hm => h3 (List.mem_cons_of_mem _ hm)⟩)
  | case5 a A b B h h' ih =>
    obtain ⟨a1, a2⟩ := UpK.cons.1 hA
    obtain ⟨b1, b2⟩ := UpK.cons.1 hB
    rw [List.mem_cons, ih hA b2]
    have hlt : ∀ x ∈ a :: A, lt (key b) (key x) = true := by
      intro y hy
      rcases List.mem_cons.1 hy with rfl | hy
      · exact h'
      · exact O.trans _ _ _ h' (a1 y hy)
    constructor
    · rintro (rfl | ⟨x, h1, h2, h3⟩ | ⟨y, h1, h2, h3⟩)
      · exact .inr ⟨b, List.mem_cons_self, rfl, fun hm => O.ne (hlt b hm) rfl⟩
      · refine .inl ⟨x, h1, h2, fun y hy => ?_⟩
        rcases List.mem_cons.1 hy with rfl | hy
        · exact O.ne (hlt x h1)
        · exact h3 y hy
      · exact .inr ⟨y, List.mem_cons_of_mem _ h1, h2, h3⟩
    · rintro (⟨x, h1, h2, h3⟩ | ⟨y, h1, h2, h3⟩)
      · exact .inr (.inl ⟨x, h1, h2, fun y hy => h3 y (List.mem_cons_of_mem _ hy)⟩)
      · rcases List.mem_cons.1 h1 with rfl | h1
        · exact .inl h2
        · exact .inr (.inr ⟨y, h1, h2, h3⟩)
  | case6 a A b B h h' ih =>
    obtain ⟨a1, a2⟩ := UpK.cons.1 hA
    obtain ⟨b1, b2⟩ := UpK.cons.1 hB
    have hk : key a = key b := O.tri _ _ (by simpa using h) (by simpa using h')
    rw [List.mem_append, ih a2 b2]
    have hbA : b ∉ A := fun hm => O.ne (a1 b hm) hk
    have hx : ∀ x ∈ A, ∀ y, y = b → key y ≠ key x := by
      rintro x hx y rfl e
      exact O.ne (a1 x hx) (hk.trans e)
    have hy : ∀ y ∈ B, y ≠ a := by
      rintro y hy rfl
      exact O.ne (b1 y hy) hk.symm
    constructor
    · rintro (h0 | ⟨x, h1, h2, h3⟩ | ⟨y, h1, h2, h3⟩)
      · split at h0
        · cases h0
        · rename_i hv
          simp at h0; subst h0
          refine .inr ⟨b, List.mem_cons_self, rfl, fun hm => ?_⟩
          rcases List.mem_cons.1 hm with e | hm
          · exact hv (by rw [e])
          · exact hbA hm
      · refine .inl ⟨x, List.mem_cons_of_mem _ h1, h2, fun y hy => ?_⟩
        rcases List.mem_cons.1 hy with e | hy
        · exact hx x h1 y e
        · exact h3 y hy
      · refine .inr ⟨y, List.mem_cons_of_mem _ h1, h2, fun hm => ?_⟩
        rcases List.mem_cons.1 hm with e | hm
        · exact hy y h1 e
        · exact h3 hm
    · rintro (⟨x, h1, h2, h3⟩ | ⟨y, h1, h2, h3⟩)
      · rcases List.mem_cons.1 h1 with e | h1
        · exact absurd (hk.symm.trans (by rw [e])) (h3 b List.mem_cons_self)
        · exact .inr (.inl ⟨x, h1, h2, fun y hy => h3 y (List.mem_cons_of_mem _ hy)⟩)
      · rcases List.mem_cons.1 h1 with e | h1
        · subst e
          left
          have hv : a.v.data.toList ≠ y.v.data.toList := by
            intro hv
            exact h3 (by rw [itm_ext hk hv]; exact List.mem_cons_self)
          rw [if_neg hv]
          simpa using h2
        · exact .inr (.inr ⟨y, h1, h2, fun hm => h3 (List.mem_cons_of_mem _ hm)⟩)
theorem InDif.key {A B : List Itm} {c : Ch} (h : InDif A B c) : (∃ x ∈ A, ckey c = key x) ∨ ∃ y ∈ B, ckey c = key y := by
  rcases h with ⟨x, h1, rfl, _⟩ | ⟨y, h1, rfl, _⟩
  · exact .inl ⟨x, h1, rfl⟩
  · exact .inr ⟨y, h1, rfl⟩
theorem up_dif (A B : List Itm) (hA : UpK key A) (hB : UpK key B) : UpK Sc.key (dif A B) := by
  have hm := fun c A B hA hB => mem_dif c A B hA hB
  fun_induction dif A B with
  | case1 => exact UpK.nil
  | case2 a A ih =>
    obtain ⟨a1, a2⟩ := UpK.cons.1 hA
    refine UpK.cons.2 ⟨fun c hc => ?_, ih a2 hB⟩
    rcases ((hm c A [] a2 hB).1 hc).key with ⟨x, h1, h2⟩ | ⟨y, h1, h2⟩
    · rw [show Sc.key c = key x from h2]; exact a1 x h1
    · cases h1
  | case3 b B ih =>
    obtain ⟨b1, b2⟩ := UpK.cons.1 hB
    refine UpK.cons.2 ⟨fun c hc => ?_, ih hA b2⟩
    rcases ((hm c [] B hA b2).1 hc).key with ⟨x, h1, h2⟩ | ⟨y, h1, h2⟩
    · cases h1
    · rw [show Sc.key c = key y from h2]; exact b1 y h1
  | case4 a A b B h ih =>
    obtain ⟨a1, a2⟩ := UpK.cons.1 hA
    obtain ⟨b1, b2⟩ := UpK.cons.1 hB
    refine UpK.cons.2 ⟨fun c hc => ?_, ih a2 hB⟩
    rcases ((hm c A (b :: B) a2 hB).1 hc).key with ⟨x, h1, h2⟩ | ⟨y, h1, h2⟩
    · rw [show Sc.key c = key x from h2]; exact a1 x h1
    · rw [show Sc.key c = key y from h2]
      rcases List.mem_cons.1 h1 with rfl | h1
      · exact h
      · exact O.trans _ _ _ h (b1 y h1)
  | case5 a A b B h h' ih =>
    obtain ⟨a1, a2⟩ := UpK.cons.1 hA
    obtain ⟨b1, b2⟩ := UpK.cons.1 hB
    refine UpK.cons.2 ⟨fun c hc => ?_, ih hA b2⟩
    rcases ((hm c (a :: A) B hA b2).1 hc).key with ⟨x, h1, h2⟩ | ⟨y, h1, h2⟩
    · rw [show Sc.key c = key x from h2]
      rcases List.mem_cons.1 h1 with rfl | h1
      · exact h'
      · exact O.trans _ _ _ h' (a1 x h1)
    · rw [show Sc.key c = key y from h2]; exact b1 y h1
  | case6 a A b B h h' ih =>
    obtain ⟨a1, a2⟩ := UpK.cons.1 hA
    obtain ⟨b1, b2⟩ := UpK.cons.1 hB
    have hk : key a = key b := O.tri _ _ (by simpa using h) (by simpa using h')
    refine UpK.append.2 ⟨by split; exact UpK.nil; exact UpK.one _, ih a2 b2, ?_⟩
    intro x hx c hc
    have hxk : Sc.key x = key b := by
      split at hx
      · cases hx
      · simp at hx; subst hx; rfl
    rw [hxk]
    rcases ((hm c A B a2 b2).1 hc).key with ⟨z, h1, h2⟩ | ⟨y, h1, h2⟩
    · rw [show Sc.key c = key z from h2, ← hk]; exact a1 z h1
    · rw [show Sc.key c = key y from h2]; exact b1 y h1
theorem app_dif {A B : List Itm} (hA : UpK key A) (hB : UpK key B) : app A (dif A B) = B := by
  refine up_ext (up_app _ hA) hB fun x => ?_
  rw [mem_app]
  constructor
  · rintro (⟨h1, h2⟩ | ⟨c, h1, h2, rfl⟩)
    · refine Classical.byContradiction fun hx => ?_
      by_cases hex : ∃ y ∈ B, key y = key x
      · obtain ⟨y, hy, e⟩ := hex
        by_cases hyA : y ∈ A
        · have := up_inj hA hyA h1 e
          subst this; exact hx hy
        · exact h2 (there y) ((mem_dif _ A B hA hB).2 (.inr ⟨y, hy, rfl, hyA⟩)) e
      · exact h2 (gone x) ((mem_dif _ A B hA hB).2 (.inl ⟨x, h1, rfl, fun y hy e => hex ⟨y, hy, e⟩⟩)) rfl
    · rcases (mem_dif c A B hA hB).1 h1.mem with ⟨y, _, rfl, _⟩ | ⟨y, h3, rfl, _⟩
      · cases h2
      · exact h3
  · intro hx
    by_cases hxA : x ∈ A
    · refine .inl ⟨hxA, fun c hc e => ?_⟩
      rcases (mem_dif c A B hA hB).1 hc with ⟨y, h1, rfl, h3⟩ | ⟨y, h1, rfl, h3⟩
      · exact h3 x hx e.symm
      · have := up_inj hB h1 hx e
        subst this; exact h3 hxA
    · exact .inr ⟨there x, (up_lst (up_dif A B hA hB) _).2 ((mem_dif _ A B hA hB).2 (.inr ⟨x, hx, rfl, hxA⟩)), rfl, rfl⟩
theorem dif_self {A : List Itm} (hA : UpK key A) : dif A A = [] := by
  refine List.eq_nil_iff_forall_not_mem.2 fun c hc => ?_
  rcases (mem_dif c A A hA hA).1 hc with ⟨x, h1, _, h3⟩ | ⟨y, h1, _, h3⟩
  · exact h3 x h1 rfl
  · exact h3 h1
/-- each change between two lists changes something -/
theorem dif_few {A B : List Itm} (hA : UpK key A) (hB : UpK key B) {c : Ch} (hc : c ∈ dif A B) : app A [c] ≠ A := by
  intro e
  have hm : ∀ x, x ∈ don c A ↔ x ∈ A := fun x => by rw [show don c A = A from e]
  rcases (mem_dif c A B hA hB).1 hc with ⟨x, h1, rfl, h3⟩ | ⟨y, h1, rfl, h3⟩
  · rcases (mem_don _ x A).1 ((hm x).2 h1) with ⟨_, h4⟩ | ⟨h4, _⟩
    · exact h4 rfl
    · cases h4
  · exact h3 ((hm y).1 ((mem_don _ y A).2 (.inr ⟨rfl, rfl⟩)))
/-- what is apart is right -/
theorem rc_dif {A B : List Itm} (hA : rt A = true) (hB : rt B = true) : rc (dif A B) = true := by
  obtain ⟨a1, a2⟩ := rt_iff.1 hA
  obtain ⟨b1, b2⟩ := rt_iff.1 hB
  refine rc_iff.2 fun c hc => ?_
  rcases (mem_dif c A B a1 b1).1 hc with ⟨x, h1, rfl, h3⟩ | ⟨y, h1, rfl, h3⟩
  · have h := a2 x h1
    simp only [okI, Bool.and_eq_true] at h
    simp only [okC, gone, Bool.and_eq_true]
    exact ⟨h.1, rfl, by rw [ByteArray.toList_eq]; rfl⟩
  · have h := b2 y h1
    simp only [okI, Bool.and_eq_true] at h
    simp only [okC, there, Bool.and_eq_true]
    exact ⟨h.1, h.2, rfl⟩
/-! ## under a prefix -/
def pre (p : ByteArray) (x : Itm) : Bool := p.data.toList.isPrefixOf (key x)
def und (D : List Itm) (p : ByteArray) : List Itm := D.filter (pre p)
theorem bl_nil (a : List UInt8) : By.bl a [] = false := by cases a <;> rfl
theorem pre_ge : ∀ p a : List UInt8, p.isPrefixOf a = true → By.bl a p = false
  | [], a, _ => bl_nil a
  | x :: p, [], h => by cases h
  | x :: p, y :: a, h => by
    have h' : (x == y && p.isPrefixOf a) = true := h
    rw [Bool.and_eq_true] at h'
    have e : x = y := by simpa using h'.1
    subst e
    rw [Bool.eq_false_iff]
    intro h2
    rcases (By.bl_cons _ _ _ _).1 h2 with h3 | ⟨_, h3⟩
    · exact By.u8_irrefl h3
    · rw [pre_ge p a h'.2] at h3; cases h3
theorem pre_mid : ∀ p a b : List UInt8, By.bl a p = false → By.bl a b = true → p.isPrefixOf b = true → p.isPrefixOf a = true
  | [], _, _, _, _, _ => rfl
  | x :: p, a, [], _, _, h => by cases h
  | x :: p, [], y :: b, h, _, _ => by cases h
  | x :: p, z :: a, y :: b, h1, h2, h3 => by
    have h' : (x == y && p.isPrefixOf b) = true := h3
    rw [Bool.and_eq_true] at h'
    have e : x = y := by simpa using h'.1
    subst e
    have n1 : ¬ (z < x ∨ (z = x ∧ By.bl a p = true)) := fun e => by rw [(By.bl_cons z x a p).2 e] at h1; cases h1
    rcases (By.bl_cons _ _ _ _).1 h2 with h4 | ⟨rfl, h4⟩
    · exact absurd (.inl h4) n1
    · have : By.bl a p = false := by
        rw [Bool.eq_false_iff]; exact fun e => n1 (.inr ⟨rfl, e⟩)
      show (z == z && p.isPrefixOf a) = true
      rw [pre_mid p a b this h4 h'.2]
      simp
/-- what is under a prefix stands in one piece, from its place on -/
theorem und_piece {D : List Itm} {p : ByteArray} {i : Nat} (hD : UpK key D) (h : At D p i) : und D p = (D.drop i).takeWhile (pre p) := by
  obtain ⟨h1, h2, h3⟩ := h
  unfold und
  have e0 : D.filter (pre p) = (D.take i).filter (pre p) ++ (D.drop i).filter (pre p) := by rw [← List.filter_append, List.take_append_drop]
  have e1 : (D.take i).filter (pre p) = [] := by
    refine List.filter_eq_nil_iff.2 fun x hx hp => ?_
    have := pre_ge _ _ hp
    rw [show By.bl (key x) p.data.toList = true from h2 x hx] at this
    cases this
  rw [e0, e1, List.nil_append]
  have hu : UpK key (D.drop i) := hD.sub (List.drop_sublist _ _)
  clear e0 e1
  generalize D.drop i = E at *
  induction E with
  | nil => rfl
  | cons x E ih =>
    obtain ⟨u1, u2⟩ := UpK.cons.1 hu
    by_cases hx : pre p x = true
    · rw [List.filter_cons_of_pos hx, List.takeWhile_cons_of_pos hx]
      rw [ih (fun y hy => h3 y (List.mem_cons_of_mem _ hy)) u2]
    · rw [List.takeWhile_cons_of_neg hx, List.filter_cons_of_neg hx]
      refine List.filter_eq_nil_iff.2 fun y hy hp => hx ?_
      exact pre_mid _ _ _ (h3 x List.mem_cons_self) (u1 y hy) hp
theorem und_ok {D : List Itm} (p : ByteArray) (h : rt D = true) : rt (und D p) = true := by
  obtain ⟨h1, h2⟩ := rt_iff.1 h
  exact rt_of (h1.sub List.filter_sublist) fun x hx => h2 x (List.mem_filter.1 hx).1
theorem und_none (D : List Itm) : und D { data := #[] } = D := by
  unfold und
  exact List.filter_eq_self.2 fun x _ => rfl
end Go.Proofs.YtjkmfonngbendaaGreatDoor.It
/- Plain mathematics of streams as bytes: what is written is taken again; a stream with one bit turned is none. No word of the program's code here. -/
namespace Go.Proofs.YtjkmfonngbendaaGreatDoor.Se
set_option linter.unusedVariables false
set_option linter.unusedSimpArgs false
open Pk (be num be_length num_be num_lt crc crc_turned)
open Nd (S Cod tkNum tkBytes cNum cBytes num_good bytes_good S_eta be_num bs)
open It (Itm Ch rt itm)
def tkT (s : S) : List UInt8 × S := tkBytes (tkNum 2 s).1 (tkNum 2 s).2
def cT : Cod (List UInt8) := ⟨tkT, fun t => be 2 t.length ++ t, fun t => t.length < 65536⟩
theorem T_good : cT.Good where
  back x r b h := by
    have hl : x.length < 256 ^ 2 := h
    show tkT (be 2 x.length ++ x ++ r, b) = _
    unfold tkT
    have h1 : tkNum 2 (be 2 x.length ++ (x ++ r), b) = _ := (num_good 2).back x.length (x ++ r) b hl
    rw [List.append_assoc, h1]
    exact (bytes_good x.length).back x r b rfl
  stay s h := (bytes_good _).stay _ ((num_good 2).stay s h)
  fwd l h := by
    have h' : (tkBytes (tkNum 2 (l, false)).1 (tkNum 2 (l, false)).2).2.2 = false := h
    cases hs : (tkNum 2 (l, false)).2.2 with
    | true => have := (bytes_good (tkNum 2 (l, false)).1).stay _ hs; rw [show ((cBytes (tkNum 2 (l, false)).1).tk (tkNum 2 (l, false)).2).2.2 = false from h'] at this; cases this
    | false =>
      obtain ⟨h1, h2⟩ := (num_good 2).fwd l hs
      have h1 : (tkNum 2 (l, false)).1 < 256 ^ 2 := h1
      have h2 : l = be 2 (tkNum 2 (l, false)).1 ++ (tkNum 2 (l, false)).2.1 := h2
      have e : (tkNum 2 (l, false)).2 = ((tkNum 2 (l, false)).2.1, false) := S_eta hs
      rw [e] at h'
      obtain ⟨h3, h4⟩ := (bytes_good (tkNum 2 (l, false)).1).fwd _ h'
      show (tkT (l, false)).1.length < 65536 ∧ l = (be 2 (tkT (l, false)).1.length ++ (tkT (l, false)).1) ++ (tkT (l, false)).2.1
      unfold tkT
      rw [e]
      have h3 : (tkBytes (tkNum 2 (l, false)).1 ((tkNum 2 (l, false)).2.1, false)).1.length = (tkNum 2 (l, false)).1 := h3
      refine ⟨by rw [h3]; exact h1, ?_⟩
      rw [h3, List.append_assoc]
      exact h2.trans (congrArg _ h4)
/-- a change -/
def tkC (s : S) : Ch × S :=
  if (tkNum 1 s).1 = 1 then (⟨bs (tkT (tkNum 1 s).2).1, true, bs (tkT (tkT (tkNum 1 s).2).2).1⟩, (tkT (tkT (tkNum 1 s).2).2).2)
  else if (tkNum 1 s).1 = 0 then (⟨bs (tkT (tkNum 1 s).2).1, false, ⟨#[]⟩⟩, (tkT (tkNum 1 s).2).2)
  else (⟨⟨#[]⟩, false, ⟨#[]⟩⟩, ((tkNum 1 s).2.1, true))
def txt (x : ByteArray) : List UInt8 := cT.wr x.data.toList
def wrC (c : Ch) : List UInt8 := if c.h then be 1 1 ++ (txt c.k ++ txt c.v) else be 1 0 ++ txt c.k
def okc (c : Ch) : Prop := c.k.size < 65536 ∧ c.v.size < 65536 ∧ (c.h = false → c.v = ⟨#[]⟩)
def cC : Cod Ch := ⟨tkC, wrC, okc⟩
theorem bs_list (x : ByteArray) : bs x.data.toList = x := rfl
theorem lenB (x : ByteArray) : x.data.toList.length = x.size := by rw [Array.length_toList]; rfl
theorem T_back (x : ByteArray) (r : List UInt8) (b : Bool) (h : x.size < 65536) : tkT (txt x ++ r, b) = (x.data.toList, (r, b)) := T_good.back x.data.toList r b (by show x.data.toList.length < 65536; rw [lenB]; exact h)
theorem N_back (n : Nat) (hn : n < 256) (r : List UInt8) (b : Bool) : tkNum 1 (be 1 n ++ r, b) = (n, (r, b)) := (num_good 1).back n r b (show n < 256 ^ 1 by omega)
theorem N_stay (w : Nat) (s : S) (h : s.2 = true) : (tkNum w s).2.2 = true := (num_good w).stay s h
theorem T_stay (s : S) (h : s.2 = true) : (tkT s).2.2 = true := T_good.stay s h
theorem bs_size' (l : List UInt8) : (bs l).size = l.length := rfl
theorem C_good : cC.Good where
  back x r b h := by
    obtain ⟨h1, h2, h3⟩ := h
    show tkC (wrC x ++ r, b) = (x, (r, b))
    obtain ⟨k, hh, v⟩ := x
    unfold wrC tkC
    cases hh with
    | true =>
      dsimp only at h1 h2 h3 ⊢
      rw [if_pos rfl, List.append_assoc, List.append_assoc, N_back 1 (by decide), if_pos rfl]
      dsimp only
      rw [T_back k _ b h1]
      dsimp only
      rw [T_back v _ b h2]
      rfl
    | false =>
      dsimp only at h1 h2 h3 ⊢
      rw [if_neg (show ¬ false = true from Bool.false_ne_true), List.append_assoc, N_back 0 (by decide), if_neg (show ¬ (0 : Nat) = 1 by decide), if_pos rfl]
      dsimp only
      rw [T_back k _ b h1, h3 rfl]
      rfl
  stay s h := by
    show (tkC s).2.2 = true
    have h1 := N_stay 1 s h
    have h2 := T_stay _ h1
    unfold tkC
    split
    · exact T_stay _ h2
    · split
      · exact h2
      · rfl
  fwd l h := by
    have h' : (tkC (l, false)).2.2 = false := h
    show okc (tkC (l, false)).1 ∧ l = wrC (tkC (l, false)).1 ++ (tkC (l, false)).2.1
    unfold tkC at h' ⊢
    cases hs : (tkNum 1 (l, false)).2.2 with
    | true =>
      have h2 := T_stay _ hs
      have h3 := T_stay _ h2
      split at h'
      · rw [h3] at h'; cases h'
      · split at h'
        · rw [h2] at h'; cases h'
        · cases h'
    | false =>
      obtain ⟨n1, n2⟩ := (num_good 1).fwd l hs
      have n2 : l = be 1 (tkNum 1 (l, false)).1 ++ (tkNum 1 (l, false)).2.1 := n2
      have e : (tkNum 1 (l, false)).2 = ((tkNum 1 (l, false)).2.1, false) := S_eta hs
      obtain ⟨r1, hr1⟩ : ∃ r, (tkNum 1 (l, false)).2.1 = r := ⟨_, rfl⟩
      rw [hr1] at e n2
      rw [e] at h' ⊢
      by_cases k1 : (tkNum 1 (l, false)).1 = 1
      · rw [if_pos k1] at h' ⊢
        rw [k1] at n2
        cases ht : (tkT (r1, false)).2.2 with
        | true => have := T_stay _ ht; rw [this] at h'; cases h'
        | false =>
          obtain ⟨t1, t2⟩ := T_good.fwd r1 ht
          have e2 : (tkT (r1, false)).2 = ((tkT (r1, false)).2.1, false) := S_eta ht
          obtain ⟨r2, hr2⟩ : ∃ r, (tkT (r1, false)).2.1 = r := ⟨_, rfl⟩
          have t2 : r1 = cT.wr (tkT (r1, false)).1 ++ (tkT (r1, false)).2.1 := t2
          rw [hr2] at e2 t2
          rw [e2] at h' ⊢
          obtain ⟨u1, u2⟩ := T_good.fwd r2 h'
          have u2 : r2 = cT.wr (tkT (r2, false)).1 ++ (tkT (r2, false)).2.1 := u2
          refine ⟨⟨t1, u1, fun h => by cases h⟩, ?_⟩
          unfold wrC
          rw [if_pos rfl]
          show l = (be 1 1 ++ (cT.wr (tkT (r1, false)).1 ++ cT.wr (tkT (r2, false)).1)) ++ (tkT (r2, false)).2.1
          rw [List.append_assoc, List.append_assoc, ← u2, ← t2]
          exact n2
      · rw [if_neg k1] at h' ⊢
        by_cases k0 : (tkNum 1 (l, false)).1 = 0
        · rw [if_pos k0] at h' ⊢
          rw [k0] at n2
          obtain ⟨t1, t2⟩ := T_good.fwd r1 h'
          have t2 : r1 = cT.wr (tkT (r1, false)).1 ++ (tkT (r1, false)).2.1 := t2
          refine ⟨⟨t1, show (0 : Nat) < 65536 by decide, fun _ => rfl⟩, ?_⟩
          unfold wrC
          rw [if_neg (show ¬ false = true from Bool.false_ne_true)]
          show l = (be 1 0 ++ cT.wr (tkT (r1, false)).1) ++ (tkT (r1, false)).2.1
          rw [List.append_assoc, ← t2]
          exact n2
        · rw [if_neg k0] at h'
          cases h'
/-- so many changes, till one is wrong -/
def tkCs : Nat → S → List Ch × S
  | 0, s => ([], s)
  | n + 1, s => if (tkC s).2.2 = true then ([], (tkC s).2) else ((tkC s).1 :: (tkCs n (tkC s).2).1, (tkCs n (tkC s).2).2)
theorem cs_back : ∀ (xs : List Ch) (r : List UInt8), (∀ x ∈ xs, okc x) → tkCs xs.length (xs.flatMap wrC ++ r, false) = (xs, (r, false))
  | [], r, _ => rfl
  | x :: xs, r, h => by
    have hb : tkC (wrC x ++ (xs.flatMap wrC ++ r), false) = (x, (xs.flatMap wrC ++ r, false)) := C_good.back x _ false (h x List.mem_cons_self)
    rw [List.flatMap_cons, List.append_assoc, List.length_cons, tkCs, hb, if_neg Bool.false_ne_true]
    dsimp only
    rw [cs_back xs r fun y hy => h y (List.mem_cons_of_mem _ hy)]
theorem cs_fwd : ∀ (c : Nat) (l : List UInt8), (tkCs c (l, false)).2.2 = false → (tkCs c (l, false)).1.length = c ∧ (∀ x ∈ (tkCs c (l, false)).1, okc x) ∧ l = (tkCs c (l, false)).1.flatMap wrC ++ (tkCs c (l, false)).2.1
  | 0, l, _ => ⟨rfl, fun x h => (by cases h), rfl⟩
  | c + 1, l, h => by
    rw [tkCs] at h ⊢
    cases hs : (tkC (l, false)).2.2 with
    | true => rw [if_pos hs] at h; exact absurd (hs.symm.trans h) (by decide)
    | false =>
      rw [if_neg (by simp [hs])] at h ⊢
      obtain ⟨h1, h2⟩ := C_good.fwd l hs
      have h2 : l = wrC (tkC (l, false)).1 ++ (tkC (l, false)).2.1 := h2
      have e : (tkC (l, false)).2 = ((tkC (l, false)).2.1, false) := S_eta hs
      rw [e] at h ⊢
      obtain ⟨h3, h4, h5⟩ := cs_fwd c _ h
      refine ⟨by dsimp only; rw [List.length_cons, h3], fun x hx => ?_, ?_⟩
      · rcases List.mem_cons.1 hx with rfl | hx
        · exact h1
        · exact h4 x hx
      · dsimp only
        rw [List.flatMap_cons, List.append_assoc, ← h5]
        exact h2
/-! ## a stream -/
/-- the beginning -/
def hd (l : List UInt8) : S := if [67, 83].isPrefixOf l then (l.drop 2, false) else (l, true)
def baseOf (s : S) : List UInt8 := s.1.take 32 ++ List.replicate (32 - s.1.length) 0
def tkB (s : S) : S := (s.1.drop 32, s.2 || decide (s.1.length < 32))
def s2 (l : List UInt8) : S := tkB (hd l)
def cnt (l : List UInt8) : Nat := (tkNum 4 (s2 l)).1
def s4 (l : List UInt8) : List Ch × S := tkCs (cnt l) (tkNum 4 (s2 l)).2
def okB (l : List UInt8) : Bool := !(s4 l).2.2 && ((s4 l).2.1.isEmpty && rt ((s4 l).1.map itm))
def sumB (l : List UInt8) : List UInt8 := be 4 (crc l).toNat
theorem sumB_len (l : List UInt8) : (sumB l).length = 4 := be_length 4 _
/-- what a stream says: what it is to be received on, and what is changed -/
def tkn (s : List UInt8) : Option (List UInt8 × List Ch) :=
  if s.length < 4 then none else
  if num (s.drop (s.length - 4)) = (crc (s.take (s.length - 4))).toNat then
    (if okB (s.take (s.length - 4)) then some (baseOf (hd (s.take (s.length - 4))), (s4 (s.take (s.length - 4))).1) else none) else none
def wrB (base : List UInt8) (D : List Ch) : List UInt8 := [67, 83] ++ (base ++ (be 4 D.length ++ D.flatMap wrC))
def wrS (base : List UInt8) (D : List Ch) : List UInt8 := wrB base D ++ sumB (wrB base D)
theorem wrS_len (base : List UInt8) (D : List Ch) : (wrS base D).length = (wrB base D).length + 4 := by unfold wrS; rw [List.length_append, sumB_len]
theorem wrS_take (base : List UInt8) (D : List Ch) : (wrS base D).take ((wrS base D).length - 4) = wrB base D ∧ (wrS base D).drop ((wrS base D).length - 4) = sumB (wrB base D) := by
  rw [wrS_len, Nat.add_sub_cancel]
  unfold wrS
  exact ⟨List.take_left' rfl, List.drop_left' rfl⟩
theorem num_sum (l : List UInt8) : num (sumB l) = (crc l).toNat := num_be 4 _ (by have := (crc l).isLt; omega)
theorem s4_back {base : List UInt8} {D : List Ch} (hb : base.length = 32) (hD : ∀ x ∈ D, okc x) (hn : D.length < 4294967296) : hd (wrB base D) = (base ++ (be 4 D.length ++ D.flatMap wrC), false) ∧ s4 (wrB base D) = (D, ([], false)) := by
  have h0 : hd (wrB base D) = (base ++ (be 4 D.length ++ D.flatMap wrC), false) := by
    unfold hd wrB
    rw [if_pos (by rfl)]
    rfl
  have h1 : s2 (wrB base D) = (be 4 D.length ++ D.flatMap wrC, false) := by
    unfold s2 tkB
    rw [h0]
    dsimp only
    rw [List.drop_left' hb, decide_eq_false (by rw [List.length_append]; omega)]
    rfl
  have h2 : tkNum 4 (s2 (wrB base D)) = (D.length, (D.flatMap wrC, false)) := by
    rw [h1]
    exact (num_good 4).back D.length _ false (show D.length < 256 ^ 4 by omega)
  refine ⟨h0, ?_⟩
  unfold s4 cnt
  rw [h2]
  dsimp only
  have := cs_back D [] hD
  rwa [List.append_nil] at this
/-- what is written is taken again -/
theorem tkn_wr {base : List UInt8} {D : List Ch} (hb : base.length = 32) (hD : ∀ x ∈ D, okc x) (hn : D.length < 4294967296) (hr : rt (D.map itm) = true) : tkn (wrS base D) = some (base, D) := by
  obtain ⟨h0, h1⟩ := s4_back hb hD hn
  obtain ⟨h2, h3⟩ := wrS_take base D
  unfold tkn
  rw [h2, h3, if_neg (by rw [wrS_len]; omega), num_sum, if_pos rfl]
  unfold okB
  rw [h1, h0]
  dsimp only
  rw [hr]
  unfold baseOf
  dsimp only
  rw [List.take_left' hb, show 32 - (base ++ (be 4 D.length ++ D.flatMap wrC)).length = 0 by rw [List.length_append]; omega]
  simp
/-- of a list whose sum is another one, nothing is taken -/
theorem tkn_sum {s : List UInt8} (h : num (s.drop (s.length - 4)) ≠ (crc (s.take (s.length - 4))).toNat) : tkn s = none := by
  unfold tkn
  rw [if_neg h]
  split <;> rfl
theorem tkn_head {s : List UInt8} (h : [67, 83].isPrefixOf (s.take (s.length - 4)) = false) : tkn s = none := by
  have stay : ∀ (n : Nat) (s : S), s.2 = true → (tkCs n s).2.2 = true := by
    intro n s hs
    cases n with
    | zero => exact hs
    | succ n =>
      have h9 : (tkC s).2.2 = true := C_good.stay s hs
      rw [tkCs, if_pos h9]; exact h9
  have h1 : (s4 (s.take (s.length - 4))).2.2 = true := by
    unfold s4
    refine stay _ _ (N_stay 4 _ ?_)
    unfold s2 tkB hd
    rw [h]
    rfl
  unfold tkn okB
  rw [h1]
  split
  · rfl
  · split <;> rfl
/-- a stream with one byte turned is none -/
theorem tkn_turned {body : List UInt8} {i : Nat} (hi : i < (body ++ sumB body).length) {b : UInt8} (hb : b ≠ 0) : tkn ((body ++ sumB body).set i ((body ++ sumB body)[i] ^^^ b)) = none := by
  have h4 := sumB_len body
  obtain ⟨F, hF⟩ : ∃ F, body ++ sumB body = F := ⟨_, rfl⟩
  have hl : F.length = body.length + 4 := by rw [← hF, List.length_append, h4]
  have xne : ∀ x : UInt8, x ^^^ b ≠ x := by
    intro x hx
    apply hb
    have := congrArg (fun y => x ^^^ y) hx
    simpa [← UInt8.xor_assoc] using this
  have hF1 : F.take body.length = body := by rw [← hF]; exact List.take_left' rfl
  have hF2 : F.drop body.length = sumB body := by rw [← hF]; exact List.drop_left' rfl
  simp only [hF] at hi ⊢
  refine tkn_sum ?_
  rw [List.length_set, hl, Nat.add_sub_cancel]
  intro e
  by_cases hi4 : i < body.length
  · have hg : F[i] = body[i] := by
      have q : F[i]? = body[i]? := by rw [← hF, List.getElem?_append_left hi4]
      rw [List.getElem?_eq_getElem (by omega), List.getElem?_eq_getElem hi4] at q
      exact Option.some.inj q
    rw [List.drop_set_of_lt hi4, hF2, num_sum, hg] at e
    have e1 : (F.set i (body[i] ^^^ b)).take body.length = body.set i (body[i] ^^^ b) := by
      rw [List.take_set, hF1]
    rw [e1] at e
    exact crc_turned body i hi4 b hb (BitVec.eq_of_toNat_eq e.symm)
  · have e1 : (F.set i (F[i] ^^^ b)).take body.length = body := by rw [List.take_set_of_le (by omega), hF1]
    rw [e1] at e
    have hd4 : ((F.set i (F[i] ^^^ b)).drop body.length).length = 4 := by rw [List.length_drop, List.length_set]; omega
    have q1 := be_num ((F.set i (F[i] ^^^ b)).drop body.length)
    rw [hd4, e] at q1
    have q2 : (F.set i (F[i] ^^^ b)).drop body.length = F.drop body.length := by rw [← q1, hF2]; rfl
    have q3 := congrArg (fun l : List UInt8 => l[i - body.length]?) q2
    simp only [List.getElem?_drop, show body.length + (i - body.length) = i by omega, List.getElem?_set_self (show i < F.length by omega), List.getElem?_eq_getElem (show i < F.length by omega)] at q3
    exact xne _ (Option.some.inj q3)
end Go.Proofs.YtjkmfonngbendaaGreatDoor.Se
/- A writer of package stream: a strings.Builder within a struct; what its methods do. -/
namespace Go.Proofs.YtjkmfonngbendaaGreatDoor.Se
set_option linter.unusedVariables false
set_option linter.unusedSimpArgs false
set_option maxRecDepth 100000
open Go.ChangeShapes Go.WideShapes Go.ChangeAt Go.RowKit
open BigFrame
open Ar Rg
open Pk (be num be_length u8s u8s_length)
open Nd (bs)
/-- cells that a writer holds -/
abbrev Wa (p : Value) (w : World) (b : Nat) (L : List UInt8) : Prop := Lib.BuilderAt 154 5 b b p (Lib.byteCells L) w
/-- a writer in block b: not written to yet, or with bytes -/
def Wb (w : World) (b : Nat) (L : List UInt8) : Prop := (L = [] ∧ w.heap[b]? = some (.cells #[.pointer none, .slice none 0 0] 154 (0, 0))) ∨ (L ≠ [] ∧ Wa (.pointer (some ⟨b, 0, none⟩)) w b L)
theorem Wa.below {w w' : World} {b : Nat} {p : Value} {L : List UInt8} (h : Wa p w b L) (hb : Below w.heap.size w w') : Wa p w' b L := by
  have hlt := h.lt
  obtain ⟨hB, v, h0, hown, hne⟩ := h
  exact ⟨hB, v, (hb.block b hlt).trans h0, hown.kept ⟨hb.os, hb.tape, hb.output, hb.size, fun k hk _ => hb.block k hk⟩ (Classical.em _), hne⟩
theorem Wb.lt {w : World} {b : Nat} {L : List UInt8} (h : Wb w b L) : b < w.heap.size := by
  rcases h with ⟨_, h⟩ | ⟨_, h⟩
  · exact (Array.getElem?_eq_some_iff.1 h).1
  · exact h.lt
theorem Wb.below {w w' : World} {b : Nat} {L : List UInt8} (h : Wb w b L) (hb : Below w.heap.size w w') : Wb w' b L := by
  have hlt := h.lt
  rcases h with ⟨h1, h2⟩ | ⟨h1, h2⟩
  · exact .inl ⟨h1, (hb.block b hlt).trans h2⟩
  · exact .inr ⟨h1, Wa.below h2 hb⟩
theorem Wb.new (w : World) : Wb (w.alloc (.cells #[.pointer none, .slice none 0 0] 154)) w.heap.size [] := .inl ⟨rfl, heap_alloc_new w _⟩
/-- blocks of other types than bytes stay, but the writer's own -/
def Kp (b : Nat) (w w' : World) : Prop := ∀ (j : Nat) (cs : Array Value) (t : TypeId) (f : Nat × Nat), j ≠ b → t ≠ 5 → w.heap[j]? = some (.cells cs t f) → w'.heap[j]? = some (.cells cs t f)
theorem Kp.refl (b : Nat) (w : World) : Kp b w w := fun _ _ _ _ _ _ h => h
theorem Kp.trans {b : Nat} {w w1 w2 : World} (h : Kp b w w1) (k : Kp b w1 w2) : Kp b w w2 := fun j cs t f h1 h2 h3 => k j cs t f h1 h2 (h j cs t f h1 h2 h3)
theorem Kp.of_below {b : Nat} {w w' : World} (h : Below w.heap.size w w') : Kp b w w' := fun j cs t f _ _ h3 => (h.block j (Array.getElem?_eq_some_iff.1 h3).1).trans h3
theorem Kp.set (b i : Nat) (w : World) (u : Value) : Kp b w (w.setCell ⟨b, i, none⟩ u) := fun j cs t f h1 _ h3 => (Below.heap_setCell _ _ _ _ (fun e => h1 (by simp [e]))).trans h3
theorem Kp.grown {b : Nat} {w w' : World} {row : Option Nat} (hG : w.grownBy w' row) (hr : ∀ q, row = some q → ∃ cur f, w.heap[q]? = some (.cells cur 5 f)) : Kp b w w' := fun j cs t f _ h2 h3 =>
  (hG.block j (Array.getElem?_eq_some_iff.1 h3).1 (fun e => by
    obtain ⟨cur, f', h4⟩ := hr j e.symm
    rw [h3] at h4
    exact h2 (by injection h4 with h5; injection h5))).trans h3
theorem own_u8 {w : World} {B : Nat} {v : Value} {n : Nat} {xs : List Value} (h : w.ownsRow B 5 1 v n xs) : ∀ q, v.ownBlock = some q → ∃ cur f, w.heap[q]? = some (.cells cur 5 f) := by
  intro q hq
  rcases h.2 with ⟨rfl, _⟩ | ⟨g, cap, cur, rfl, _, hg, _⟩
  · cases hq
  · cases hq; exact ⟨_, _, hg⟩
theorem own_u8F {w : World} {B : Nat} {v : Value} {n : Nat} {xs : List Value} (h : w.ownsRowF B 5 1 v n xs) : ∀ q, v.ownBlock = some q → ∃ cur f, w.heap[q]? = some (.cells cur 5 f) := by
  intro q hq
  rcases h.2 with ⟨rfl, _⟩ | ⟨g, cap, cur, fz, rfl, _, hg, _⟩
  · cases hq
  · cases hq; exact ⟨_, _, hg⟩
theorem szB : (Tryz.prog.info? 152).map (·.size) = some 2 := by kernel_rfl
theorem lieB : liesAt Tryz.prog Tryz.prog.depth 154 (2 / Tryz.prog.cellsOf 154) 0 152 1 = true := by kernel_rfl
theorem infoU8 : (Tryz.prog.info? 5).map (fun i => (i.zero, i.size, i.bytes)) = some (some (.int .u8 0), 1, 1) := by kernel_rfl
theorem neWu : (154 : TypeId) ≠ 5 := by decide
set_option maxHeartbeats 1000000 in
theorem copy_used (b : Nat) (w : World) (h0 : w.cell? ⟨b, 0, none⟩ = some (.pointer (some ⟨b, 0, none⟩))) :
    Calls Tryz.prog 141 #[.pointer (some ⟨b, 0, none⟩)] w fun e w' => e = .returned (.tuple #[]) ∧ w' = w := by
  obtain ⟨j, hj, _⟩ := Option.map_eq_some_iff.1 szB
  have hq := Lib.run_neq_ptr_same (P := Tryz.prog) w ⟨b, 0, none⟩ Tryz.underlying150 hj
  go_enter Tryz.func141, Tryz.ntmps141
  go_wp2
  go_end0
  exact ⟨rfl, rfl⟩
set_option maxHeartbeats 1000000 in
theorem copy_fresh (b : Nat) (w : World) (h0 : w.cell? ⟨b, 0, none⟩ = some (.pointer none)) (hsh : w.shape? b = some (154, 2)) (hfz : w.frozen? ⟨b, 0, none⟩ = false) :
    Calls Tryz.prog 141 #[.pointer (some ⟨b, 0, none⟩)] w fun e w' => e = .returned (.tuple #[]) ∧ w' = w.setCell ⟨b, 0, none⟩ (.pointer (some ⟨b, 0, none⟩)) := by
  obtain ⟨j, hj, hjs⟩ := Option.map_eq_some_iff.1 szB
  have q1 := Lib.run_to_unsafe (P := Tryz.prog) w ⟨b, 0, none⟩ Tryz.underlying150 Tryz.underlying249 hj (by rw [hjs]; decide) hsh (Nat.zero_lt_succ 1)
  have q2 := Lib.run_from_unsafe (P := Tryz.prog) w ⟨b, 0, none⟩ Tryz.underlying249 Tryz.underlying150 hj hsh lieB
  go_enter Tryz.func141, Tryz.ntmps141
  go_wp2
  rw [run_callFunc_extern Tryz.func182 (by kernel_rfl) (by kernel_rfl) (by kernel_rfl) (e := Extern.AbiNoEscape.same) (by kernel_rfl), Lib.run_noEscape]
  simp only [Result.andThen]
  rw [Oper.upon_value]
  go_wp2
  go_end0
  exact ⟨rfl, rfl⟩
theorem copy_any {b : Nat} {w : World} {L : List UInt8} (h : Wb w b L) :
    Calls Tryz.prog 141 #[.pointer (some ⟨b, 0, none⟩)] w fun e w' => e = .returned (.tuple #[]) ∧ Wa (.pointer (some ⟨b, 0, none⟩)) w' b L ∧ Below b w w' ∧ Kp b w w' := by
  rcases h with ⟨rfl, h⟩ | ⟨_, h⟩
  · have hF : Wa (.pointer none) w b [] := ⟨Nat.le_refl _, _, h, World.ownsRow_nil _ _ _ _, by simp [Value.ownBlock]⟩
    refine (copy_fresh b w hF.cell0 hF.shape hF.frozen0).mono ?_
    rintro e w' ⟨rfl, rfl⟩
    exact ⟨rfl, hF.used _, (Below.refl b w).setCell (p := ⟨b, 0, none⟩) (Nat.le_refl _) _, Kp.set b 0 w _⟩
  · refine (copy_used b w h.cell0).mono ?_
    rintro e w' ⟨rfl, rfl⟩
    exact ⟨rfl, h, Below.refl b _, Kp.refl b _⟩
set_option maxHeartbeats 2000000 in
theorem writeS {b : Nat} {w : World} {L : List UInt8} (h : Wb w b L) (l : List UInt8) (hl : l ≠ []) (hlen : L.length + l.length ≤ 140737488355328) :
    Calls Tryz.prog 93 #[.pointer (some ⟨b, 0, none⟩), .string (bs l)] w fun e w' => e = .returned (.tuple #[.int .i64 l.length, .nilIface]) ∧ Wb w' b (L ++ l) ∧ Below b w w' ∧ Kp b w w' := by
  obtain ⟨i0, hi, hz0, hz1, hz2⟩ := info_parts infoU8
  have HLT := Lib.hid h.lt
  have HC := Lib.hid (copy_any h)
  have hs : (bs l).size = l.length := rfl
  have HL := Lib.hid hl
  clear h hl
  go_enter Tryz.func93, Tryz.ntmps93
  go_wp2_with fail
  (with_reducible refine HC.out.mono ?_)
  rintro e w1 ⟨rfl, h1, hb1, hk1⟩
  have HK1 := Lib.hid hk1
  clear hk1
  obtain ⟨hB, v, hbk, hown, hne⟩ := h1
  rw [Lib.byteCells_length] at hown
  obtain ⟨a0, n0, c0, rfl⟩ : ∃ a0 n0 c0, v = .slice a0 n0 c0 := by
    rcases hown.2 with ⟨hv, _⟩ | ⟨g, cap, cur, hv, _⟩
    · exact ⟨_, _, _, hv⟩
    · exact ⟨_, _, _, hv⟩
  have c1 : w1.cell? ⟨b, 1, none⟩ = some (.slice a0 n0 c0) := by rw [Lib.cell_of_heap hbk]; rfl
  have hb9 := hb1.size
  have hlt9 := HLT.out
  go_wp2_with (at_builtin; refine Lib.wpList_append_own_string _ rfl _ _ 60 9 rfl b 5 i0 Tryz.underlying60 Tryz.underlying9 hi hz0 hz1 hz2 _ _ _ rfl hown (bs l) rfl (by unfold maxLen; omega) (by omega) (by omega) ?_)
  intro v' w2 hown' hgrow _
  have HK2 := Lib.hid (HK1.out.trans (Kp.grown (b := b) hgrow (own_u8 hown)))
  have hlt : b < w1.heap.size := by omega
  have hb2 : w2.heap[b]? = some (.cells #[.pointer (some ⟨b, 0, none⟩), .slice a0 n0 c0] 154 (0, 0)) := by
    rw [hgrow.block b hlt (fun e => hne e.symm)]
    exact hbk
  have d1 : w2.cell? ⟨b, 1, none⟩ = some (.slice a0 n0 c0) := by rw [Lib.cell_of_heap hb2]; rfl
  have f1 : w2.frozen? ⟨b, 1, none⟩ = false := Lib.frozen_of_heap hb2 1
  obtain ⟨ao, n', cap, rfl⟩ : ∃ ao n' cap, v' = .slice ao n' cap := by
    rcases hown'.2 with ⟨hv, _⟩ | ⟨g, cap, cur, hv, _⟩
    · exact ⟨_, _, _, hv⟩
    · exact ⟨_, _, _, hv⟩
  go_wp2
  go_ret2
  refine ⟨rfl, .inr ⟨by simp [HL.out], ?_⟩, ?_, HK2.out.trans (Kp.set b 1 _ _)⟩
  · refine Lib.BuilderAt.put (Nat.le_refl _) hb2 (bs' := Lib.byteCells (L ++ l)) ?_ neWu
    rw [Lib.byteCells_append, List.length_append, Lib.byteCells_length, Lib.byteCells_length]
    exact hown'
  · exact (hb1.grown hgrow (by omega) (fun k hk => (hown.lt k hk).1)).setCell (p := ⟨b, 1, none⟩) (Nat.le_refl _) _
theorem below_cell {B g : Nat} {w w' : World} (h : Below B w w') (hg : g < B) (i : Nat) : w'.cell? ⟨g, i, none⟩ = w.cell? ⟨g, i, none⟩ := by
  have := h.block g hg
  unfold World.cell?
  simp [this]
theorem u8s_one' {l : List UInt8} {u : Value} (h : u ∈ u8s l) : u.oneCell' = true := by
  unfold u8s at h
  obtain ⟨b, _, rfl⟩ := List.mem_map.1 h
  rfl
set_option maxHeartbeats 2000000 in
/-- bytes that stand in memory -/
theorem writeB {b : Nat} {w : World} {L : List UInt8} (h : Wb w b L) (l : List UInt8) (hl : l ≠ []) (hlen : L.length + l.length ≤ 140737488355328) (gp o n c : Nat) (hn : n = l.length) (hc : n ≤ c) (hcm : c ≤ maxLen) (hgb : gp < b) (hr : ∀ j u, (u8s l)[j]? = some u → w.cell? ⟨gp, o + j, none⟩ = some u) :
    Calls Tryz.prog 94 #[.pointer (some ⟨b, 0, none⟩), .slice (some ⟨gp, o, none⟩) n c] w fun e w' => e = .returned (.tuple #[.int .i64 n, .nilIface]) ∧ Wb w' b (L ++ l) ∧ Below b w w' ∧ Kp b w w' := by
  obtain ⟨i0, hi, hz0, hz1, hz2⟩ := info_parts infoU8
  have HLT := Lib.hid h.lt
  have HC := Lib.hid (copy_any h)
  have HL := Lib.hid hl
  have HR := Lib.hid hr
  have hul : (u8s l).length = n := by rw [u8s_length, hn]
  have HUL := Lib.hid hul
  have HNL := Lib.hid hn
  have hlen2 : L.length + n ≤ 140737488355328 := by omega
  clear h hl hr hul hn hlen
  go_enter Tryz.func94, Tryz.ntmps94
  go_wp2_with fail
  (with_reducible refine HC.out.mono ?_)
  rintro e w1 ⟨rfl, h1, hb1, hk1⟩
  have HK1 := Lib.hid hk1
  clear hk1
  obtain ⟨hB, v, hbk, hown, hne⟩ := h1
  rw [Lib.byteCells_length] at hown
  obtain ⟨a0, n0, c0, rfl⟩ : ∃ a0 n0 c0, v = .slice a0 n0 c0 := by
    rcases hown.2 with ⟨hv, _⟩ | ⟨g, cap, cur, hv, _⟩
    · exact ⟨_, _, _, hv⟩
    · exact ⟨_, _, _, hv⟩
  have c1 : w1.cell? ⟨b, 1, none⟩ = some (.slice a0 n0 c0) := by rw [Lib.cell_of_heap hbk]; rfl
  have hb9 := hb1.size
  have hlt9 := HLT.out
  have HR1 := Lib.hid (show ∀ j u, (u8s l)[j]? = some u → w1.cell? ((⟨gp, o, none⟩ : Addr).add j) = some u from fun j u hu => by
    rw [Ar.add_plain]
    exact (below_cell hb1 hgb (o + j)).trans (HR.out j u hu))
  go_wp2_with (at_builtin; refine wpList_append_own _ rfl _ _ 60 rfl b 5 i0 (.int .u8 0) 1 1 Tryz.underlying60 hi hz0 hz1 hz2 rfl (by decide) _ _ _ rfl hown ⟨gp, o, none⟩ n c (u8s l) rfl (by rw [HUL.out, Nat.mul_one]) HR1.out (by intro u hu; exact u8s_one' hu) (by unfold maxLen; omega) (by omega) (by omega) ?_)
  intro v' w2 hown' hgrow _
  have HK2 := Lib.hid (HK1.out.trans (Kp.grown (b := b) hgrow (own_u8 hown)))
  have hlt : b < w1.heap.size := by omega
  have hb2 : w2.heap[b]? = some (.cells #[.pointer (some ⟨b, 0, none⟩), .slice a0 n0 c0] 154 (0, 0)) := by
    rw [hgrow.block b hlt (fun e => hne e.symm)]
    exact hbk
  have d1 : w2.cell? ⟨b, 1, none⟩ = some (.slice a0 n0 c0) := by rw [Lib.cell_of_heap hb2]; rfl
  have f1 : w2.frozen? ⟨b, 1, none⟩ = false := Lib.frozen_of_heap hb2 1
  obtain ⟨ao, n', cap, rfl⟩ : ∃ ao n' cap, v' = .slice ao n' cap := by
    rcases hown'.2 with ⟨hv, _⟩ | ⟨g, cap, cur, hv, _⟩
    · exact ⟨_, _, _, hv⟩
    · exact ⟨_, _, _, hv⟩
  clear HR HR1
  go_wp2
  go_ret2
  refine ⟨rfl, .inr ⟨by simp [HL.out], ?_⟩, ?_, HK2.out.trans (Kp.set b 1 _ _)⟩
  · refine Lib.BuilderAt.put (Nat.le_refl _) hb2 (bs' := Lib.byteCells (L ++ l)) ?_ neWu
    rw [Lib.byteCells_append, List.length_append, Lib.byteCells_length, Lib.byteCells_length, ← HNL.out]
    exact hown'
  · exact (hb1.grown hgrow (by omega) (fun k hk => (hown.lt k hk).1)).setCell (p := ⟨b, 1, none⟩) (Nat.le_refl _) _
theorem cU1 : Tryz.prog.cellsOf 5 = 1 := by kernel_rfl
/-- a writer whose bytes were told: they are frozen -/
def Wf (w : World) (b : Nat) (L : List UInt8) : Prop := L ≠ [] ∧ Lib.BuilderAtF 154 5 b b (.pointer (some ⟨b, 0, none⟩)) (Lib.byteCells L) w
theorem Wf.lt {w : World} {b : Nat} {L : List UInt8} (h : Wf w b L) : b < w.heap.size := h.2.lt
theorem Wf.below {w w' : World} {b : Nat} {L : List UInt8} (h : Wf w b L) (hb : Below w.heap.size w w') : Wf w' b L := by
  have hlt := h.lt
  obtain ⟨h1, hB, v, h0, hown, hne⟩ := h
  exact ⟨h1, hB, v, (hb.block b hlt).trans h0, hown.kept ⟨hb.os, hb.tape, hb.output, hb.size, fun k hk _ => hb.block k hk⟩ (Classical.em _), hne⟩
theorem copyF_any {b : Nat} {w : World} {L : List UInt8} (h : Wf w b L) :
    Calls Tryz.prog 141 #[.pointer (some ⟨b, 0, none⟩)] w fun e w' => e = .returned (.tuple #[]) ∧ Lib.BuilderAtF 154 5 b b (.pointer (some ⟨b, 0, none⟩)) (Lib.byteCells L) w' ∧ Below b w w' ∧ Kp b w w' := by
  refine (copy_used b w h.2.cell0).mono ?_
  rintro e w' ⟨rfl, rfl⟩
  exact ⟨rfl, h.2, Below.refl b _, Kp.refl b _⟩
set_option maxHeartbeats 2000000 in
theorem writeF {b : Nat} {w : World} {L : List UInt8} (h : Wf w b L) (l : List UInt8) (hl : l ≠ []) (hlen : L.length + l.length ≤ 140737488355328) :
    Calls Tryz.prog 93 #[.pointer (some ⟨b, 0, none⟩), .string (bs l)] w fun e w' => e = .returned (.tuple #[.int .i64 l.length, .nilIface]) ∧ Wf w' b (L ++ l) ∧ Below b w w' ∧ Kp b w w' := by
  obtain ⟨i0, hi, hz0, hz1, hz2⟩ := info_parts infoU8
  have HLT := Lib.hid h.lt
  have HC := Lib.hid (copyF_any h)
  have hs : (bs l).size = l.length := rfl
  have HL := Lib.hid hl
  clear h hl
  go_enter Tryz.func93, Tryz.ntmps93
  go_wp2_with fail
  (with_reducible refine HC.out.mono ?_)
  rintro e w1 ⟨rfl, h1, hb1, hk1⟩
  have HK1 := Lib.hid hk1
  clear hk1
  obtain ⟨hB, v, hbk, hown, hne⟩ := h1
  rw [Lib.byteCells_length] at hown
  obtain ⟨a0, n0, c0, rfl⟩ : ∃ a0 n0 c0, v = .slice a0 n0 c0 := by
    rcases hown.2 with ⟨hv, _⟩ | ⟨g, cap, cur, fz, hv, _⟩
    · exact ⟨_, _, _, hv⟩
    · exact ⟨_, _, _, hv⟩
  have c1 : w1.cell? ⟨b, 1, none⟩ = some (.slice a0 n0 c0) := by rw [Lib.cell_of_heap hbk]; rfl
  have hb9 := hb1.size
  have hlt9 := HLT.out
  go_wp2_with (at_builtin; refine Lib.wpList_append_own_stringF _ rfl _ _ 60 9 rfl b 5 i0 Tryz.underlying60 Tryz.underlying9 hi hz0 hz1 hz2 _ _ _ rfl hown (bs l) rfl (by unfold maxLen; omega) (by omega) (by omega) ?_)
  intro v' w2 hown' hgrow _
  have HK2 := Lib.hid (HK1.out.trans (Kp.grown (b := b) hgrow (own_u8F hown)))
  have hlt : b < w1.heap.size := by omega
  have hb2 : w2.heap[b]? = some (.cells #[.pointer (some ⟨b, 0, none⟩), .slice a0 n0 c0] 154 (0, 0)) := by
    rw [hgrow.block b hlt (fun e => hne e.symm)]
    exact hbk
  have d1 : w2.cell? ⟨b, 1, none⟩ = some (.slice a0 n0 c0) := by rw [Lib.cell_of_heap hb2]; rfl
  have f1 : w2.frozen? ⟨b, 1, none⟩ = false := Lib.frozen_of_heap hb2 1
  obtain ⟨ao, n', cap, rfl⟩ : ∃ ao n' cap, v' = .slice ao n' cap := by
    rcases hown'.2 with ⟨hv, _⟩ | ⟨g, cap, cur, fz, hv, _⟩
    · exact ⟨_, _, _, hv⟩
    · exact ⟨_, _, _, hv⟩
  go_wp2
  go_ret2
  refine ⟨rfl, ⟨by simp [HL.out], ?_⟩, ?_, HK2.out.trans (Kp.set b 1 _ _)⟩
  · refine Lib.BuilderAtF.put (Nat.le_refl _) hb2 (bs' := Lib.byteCells (L ++ l)) ?_ neWu
    rw [Lib.byteCells_append, List.length_append, Lib.byteCells_length, Lib.byteCells_length]
    exact hown'
  · exact (hb1.grown hgrow (by omega) (fun k hk => (hown.lt k hk).1)).setCell (p := ⟨b, 1, none⟩) (Nat.le_refl _) _
set_option maxHeartbeats 2000000 in
theorem stringF {b : Nat} {w : World} {L : List UInt8} (h : Wf w b L) :
    Calls Tryz.prog 92 #[.pointer (some ⟨b, 0, none⟩)] w fun e w' => e = .returned (.string (bs L)) ∧ Wf w' b L ∧ Below b w w' := by
  obtain ⟨h0, hB, v, hbk, hown, hne⟩ := h
  have mixed : Tryz.prog.follows .mixedOrders = true := by kernel_rfl
  have hl0 : L.length ≠ 0 := by simpa using h0
  rw [Lib.byteCells_length] at hown
  obtain ⟨g, cap, cur, fz, rfl, hbg, hg, hfz, hnc, hcm, hcs, htake⟩ : ∃ g cap cur fz, v = .slice (some ⟨g, 0, none⟩) L.length cap ∧ b ≤ g ∧ w.heap[g]? = some (.cells cur 5 fz) ∧ fz.2 ≤ L.length * 1 ∧ L.length ≤ cap ∧ cap ≤ maxLen ∧ cur.size = cap * 1 ∧ cur.toList.take (L.length * 1) = Lib.byteCells L := by
    rcases hown.2 with ⟨_, hz⟩ | ⟨g, cap, cur, fz, hv, r⟩
    · exact absurd hz hl0
    · exact ⟨g, cap, cur, fz, hv, r⟩
  have c1 : w.drew.cell? ⟨b, 1, none⟩ = some (.slice (some ⟨g, 0, none⟩) L.length cap) := by
    have : w.drew.heap[b]? = some (.cells #[.pointer (some ⟨b, 0, none⟩), .slice (some ⟨g, 0, none⟩) L.length cap] 154 (0, 0)) := hbk
    rw [Lib.cell_of_heap this]; rfl
  have hSD : (Builtin.unsafeSliceData_ #[60] 215 #[.slice (some ⟨g, 0, none⟩) L.length cap]).run Tryz.prog w.drew = .ok (.pointer (some ⟨g, 0, none⟩)) w.drew :=
    Lib.run_unsafeSliceData_row _ _ _ _ _ _ (by omega)
  have hUS : (Builtin.unsafeString_ #[215, 3] 9 #[.pointer (some ⟨g, 0, none⟩), .int .i64 L.length]).run Tryz.prog w.drew = .ok (.string ⟨L.toArray⟩) (w.drew.freeze ⟨g, 0, none⟩ L.length) := by
    refine Lib.run_unsafeString_row w.drew 215 3 9 5 Tryz.underlying215 cU1 g cur.size (by have hg' : w.drew.heap[g]? = some (.cells cur 5 fz) := hg; simp [World.shape?, hg']) L h0 (by omega) (by unfold maxLen at hcm; omega) ?_
    intro j x hx
    have := hown.cells (g := g) rfl j (.int .u8 x.toNat) (by simp [Lib.byteCells, hx])
    exact this
  have HKEEP := Lib.hid (show Wf (w.drew.freeze ⟨g, 0, none⟩ L.length) b L by
    have hA : Lib.BuilderAtF 154 5 b b (.pointer (some ⟨b, 0, none⟩)) (Lib.byteCells L) w.drew := ⟨hB, _, hbk, by rw [Lib.byteCells_length]; exact hown, hne⟩
    have hF := hA.froze (g := g) (cap := cap) (by rw [Lib.byteCells_length]; exact c1)
    rw [Lib.byteCells_length] at hF
    exact ⟨h0, hF⟩)
  clear hown htake hfz
  go_enter Tryz.func92, Tryz.ntmps92
  go_wp2
  go_region_o
  all_goals (go_wp2; go_ret; exact ⟨rfl, HKEEP.out, Lib.below_freeze (Below.drew (Below.refl b w)) (p := ⟨g, 0, none⟩) hbg _⟩)
theorem Wb.f {w : World} {b : Nat} {L : List UInt8} (h : Wb w b L) (h0 : L ≠ []) : Wf w b L := by
  rcases h with ⟨h1, _⟩ | ⟨h1, h2⟩
  · exact absurd h1 h0
  · exact ⟨h1, Lib.BuilderAtF.of h2⟩
set_option maxHeartbeats 2000000 in
theorem stringB {b : Nat} {w : World} {L : List UInt8} (h : Wb w b L) :
    Calls Tryz.prog 92 #[.pointer (some ⟨b, 0, none⟩)] w fun e w' => e = .returned (.string (bs L)) ∧ Below b w w' := by
  by_cases h0 : L ≠ []
  · refine (stringF (h.f h0)).mono ?_
    rintro e w' ⟨rfl, _, hb⟩
    exact ⟨rfl, hb⟩
  obtain rfl : L = [] := Decidable.not_not.1 h0
  rcases h with ⟨_, hbk⟩ | ⟨h1, _⟩
  · have mixed : Tryz.prog.follows .mixedOrders = true := by kernel_rfl
    have hUS : ∀ (W : World) (q : Option Addr), (Builtin.unsafeString_ #[215, 3] 9 #[.pointer q, .int .i64 0]).run Tryz.prog W = .ok (.string .empty) W := fun W q => Lib.run_unsafeString_none W _ _ _ q
    have c1 : w.drew.cell? ⟨b, 1, none⟩ = some (.slice none 0 0) := by
      have : w.drew.heap[b]? = some (.cells #[.pointer none, .slice none 0 0] 154 (0, 0)) := hbk
      rw [Lib.cell_of_heap this]; rfl
    have hSD : (Builtin.unsafeSliceData_ #[60] 215 #[.slice none 0 0]).run Tryz.prog w.drew = .ok (.pointer none) w.drew := rfl
    go_enter Tryz.func92, Tryz.ntmps92
    go_wp2
    go_region_o
    all_goals (go_wp2; go_ret; exact ⟨rfl, Below.drew (Below.refl b w)⟩)
  · exact absurd rfl h1
end Go.Proofs.YtjkmfonngbendaaGreatDoor.Se
/- Package stream: numbers, texts and changes that are written; the mark of items. -/
namespace Go.Proofs.YtjkmfonngbendaaGreatDoor.Se
set_option linter.unusedVariables false
set_option linter.unusedSimpArgs false
set_option maxRecDepth 100000
open Go.ChangeShapes Go.WideShapes Go.ChangeAt Go.RowKit
open BigFrame
open Ar Rg
open Pk (be num be_length u8s u8s_length numOk_iff nB nE xB xE)
open Nd (bs)
open It (Itm Ch)
open Hk (Row kc first row_below hashOf sum_lit)
/-- where the writing stands: the writer's block is b, of W's heap or above it -/
theorem nB_is (n k : Nat) (h1 : 1 ≤ k) (h2 : k ≤ 8) (h : n < 256 ^ k) : nB n k = bs (be k n) := by
  rw [Pk.nB_ok (numOk_iff.2 ⟨by omega, by omega, by simpa using h⟩)]
  simp
  rfl
theorem xB_is (t : ByteArray) (h : t.size < 65536) : xB t = bs (txt t) := by
  unfold xB
  rw [if_pos (by omega)]
  apply ByteArray.ext
  apply Array.toList_inj.1
  rw [ByteArray.data_append, Array.toList_append]
  show (be 2 t.size) ++ t.data.toList = be 2 t.data.toList.length ++ t.data.toList
  rw [lenB]
theorem txt_len (t : ByteArray) : (txt t).length = 2 + t.size := by
  show (be 2 t.data.toList.length ++ t.data.toList).length = _
  rw [List.length_append, be_length, lenB]
theorem ne_len {l : List UInt8} (h : 0 < l.length) : l ≠ [] := by rintro rfl; cases h
set_option maxHeartbeats 2000000 in
theorem wnumber (n k : Nat) (h1 : 1 ≤ k) (h2 : k ≤ 8) (h : n < 256 ^ k) (h0 : n < 18446744073709551616) {w : World} {b : Nat} {L : List UInt8} (hW : Wb w b L) (hlen : L.length ≤ 140737488355000) :
    Calls Tryz.prog 95 #[.pointer (some ⟨b, 0, none⟩), .int .u64 n, .int .i64 k] w fun e w' => e = .returned (.tuple #[]) ∧ Wb w' b (L ++ be k n) ∧ Below b w w' ∧ Kp b w w' := by
  have HC := Lib.hid (fun w => Pk.number_any n k w h0)
  rw [nB_is n k h1 h2 h] at HC
  have HW := Lib.hid hW
  have HL := Lib.hid (ne_len (show 0 < (be k n).length by rw [be_length]; exact h1))
  have HZ := Lib.hid (show L.length + (be k n).length ≤ 140737488355328 by rw [be_length]; omega)
  obtain ⟨l, hl⟩ : ∃ l, be k n = l := ⟨_, rfl⟩
  rw [hl] at HC HL HZ ⊢
  obtain ⟨q, hq⟩ : ∃ q, nE n k = q := ⟨_, rfl⟩
  rw [hq] at HC
  clear hW h1 h2 h h0 hlen hl hq
  go_enter Tryz.func95, Tryz.ntmps95
  go_wp2_with fail
  (with_reducible refine (HC.out _).mono ?_)
  rintro e w1 ⟨rfl, hb⟩
  have HW1 := Lib.hid (HW.out.below hb)
  have B1 := Lib.hid (hb.mono (Nat.le_of_lt HW.out.lt))
  have K1 := Lib.hid (Kp.of_below (b := b) hb)
  clear hb HC HW
  go_wp2_with fail
  (with_reducible refine (writeS HW1.out l HL.out HZ.out).mono ?_)
  rintro e w2 ⟨rfl, hw2, hb2, hk2⟩
  have K2 := Lib.hid (K1.out.trans hk2)
  have HW2 := Lib.hid hw2
  have B2 := Lib.hid (B1.out.trans hb2)
  clear hw2 hb2 hk2
  go_wp2
  go_end0
  exact ⟨rfl, HW2.out, B2.out, K2.out⟩
set_option maxHeartbeats 2000000 in
theorem wnumberF (n k : Nat) (h1 : 1 ≤ k) (h2 : k ≤ 8) (h : n < 256 ^ k) (h0 : n < 18446744073709551616) {w : World} {b : Nat} {L : List UInt8} (hW : Wf w b L) (hlen : L.length ≤ 140737488355000) :
    Calls Tryz.prog 95 #[.pointer (some ⟨b, 0, none⟩), .int .u64 n, .int .i64 k] w fun e w' => e = .returned (.tuple #[]) ∧ Wf w' b (L ++ be k n) ∧ Below b w w' ∧ Kp b w w' := by
  have HC := Lib.hid (fun w => Pk.number_any n k w h0)
  rw [nB_is n k h1 h2 h] at HC
  have HW := Lib.hid hW
  have HL := Lib.hid (ne_len (show 0 < (be k n).length by rw [be_length]; exact h1))
  have HZ := Lib.hid (show L.length + (be k n).length ≤ 140737488355328 by rw [be_length]; omega)
  obtain ⟨l, hl⟩ : ∃ l, be k n = l := ⟨_, rfl⟩
  rw [hl] at HC HL HZ ⊢
  obtain ⟨q, hq⟩ : ∃ q, nE n k = q := ⟨_, rfl⟩
  rw [hq] at HC
  clear hW h1 h2 h h0 hlen hl hq
  go_enter Tryz.func95, Tryz.ntmps95
  go_wp2_with fail
  (with_reducible refine (HC.out _).mono ?_)
  rintro e w1 ⟨rfl, hb⟩
  have HW1 := Lib.hid (HW.out.below hb)
  have B1 := Lib.hid (hb.mono (Nat.le_of_lt HW.out.lt))
  have K1 := Lib.hid (Kp.of_below (b := b) hb)
  clear hb HC HW
  go_wp2_with fail
  (with_reducible refine (writeF HW1.out l HL.out HZ.out).mono ?_)
  rintro e w2 ⟨rfl, hw2, hb2, hk2⟩
  have K2 := Lib.hid (K1.out.trans hk2)
  have HW2 := Lib.hid hw2
  have B2 := Lib.hid (B1.out.trans hb2)
  clear hw2 hb2 hk2
  go_wp2
  go_end0
  exact ⟨rfl, HW2.out, B2.out, K2.out⟩
set_option maxHeartbeats 2000000 in
theorem wtext (t : ByteArray) (ht : t.size < 65536) {w : World} {b : Nat} {L : List UInt8} (hW : Wb w b L) (hlen : L.length ≤ 140737488289000) :
    Calls Tryz.prog 91 #[.pointer (some ⟨b, 0, none⟩), .string t] w fun e w' => e = .returned (.tuple #[]) ∧ Wb w' b (L ++ txt t) ∧ Below b w w' ∧ Kp b w w' := by
  have HC := Lib.hid (fun w => Pk.text_any t w)
  rw [xB_is t ht] at HC
  have HW := Lib.hid hW
  have HL := Lib.hid (ne_len (show 0 < (txt t).length by rw [txt_len]; omega))
  have HZ := Lib.hid (show L.length + (txt t).length ≤ 140737488355328 by rw [txt_len]; omega)
  obtain ⟨l, hl⟩ : ∃ l, txt t = l := ⟨_, rfl⟩
  rw [hl] at HC HL HZ ⊢
  obtain ⟨q, hq⟩ : ∃ q, xE t = q := ⟨_, rfl⟩
  rw [hq] at HC
  clear hW ht hlen hl hq
  go_enter Tryz.func91, Tryz.ntmps91
  go_wp2_with fail
  (with_reducible refine (HC.out _).mono ?_)
  rintro e w1 ⟨rfl, hb⟩
  have HW1 := Lib.hid (HW.out.below hb)
  have B1 := Lib.hid (hb.mono (Nat.le_of_lt HW.out.lt))
  have K1 := Lib.hid (Kp.of_below (b := b) hb)
  clear hb HC HW
  go_wp2_with fail
  (with_reducible refine (writeS HW1.out l HL.out HZ.out).mono ?_)
  rintro e w2 ⟨rfl, hw2, hb2, hk2⟩
  have K2 := Lib.hid (K1.out.trans hk2)
  have HW2 := Lib.hid hw2
  have B2 := Lib.hid (B1.out.trans hb2)
  clear hw2 hb2 hk2
  go_wp2
  go_end0
  exact ⟨rfl, HW2.out, B2.out, K2.out⟩
/-- a kind -/
theorem wkind (n : Nat) (hn : n < 256) {w : World} {b : Nat} {L : List UInt8} (hW : Wb w b L) (hlen : L.length ≤ 140737488355000) (m : Int) (hm : m = n) :
    Calls Tryz.prog 95 #[.pointer (some ⟨b, 0, none⟩), .int .u64 m, .int .i64 1] w fun e w' => e = .returned (.tuple #[]) ∧ Wb w' b (L ++ be 1 n) ∧ Below b w w' ∧ Kp b w w' := by
  subst hm
  exact wnumber n 1 (by decide) (by decide) (by omega) (by omega) hW hlen
theorem wrC_len (c : Ch) : (wrC c).length ≤ 5 + c.k.size + c.v.size := by
  unfold wrC
  split
  · rw [List.length_append, List.length_append, be_length, txt_len, txt_len]; omega
  · rw [List.length_append, be_length, txt_len]; omega
set_option maxHeartbeats 4000000 in
theorem wchange (c : Ch) (hc : okc c) {w : World} {b : Nat} {L : List UInt8} (hW : Wb w b L) (hlen : L.length ≤ 140737488000000) :
    Calls Tryz.prog 96 #[.pointer (some ⟨b, 0, none⟩), .agg #[.string c.k, .bool c.h, .string c.v]] w fun e w' => e = .returned (.tuple #[]) ∧ Wb w' b (L ++ wrC c) ∧ Below b w w' := by
  obtain ⟨k, h, v⟩ := c
  obtain ⟨h1, h2, h3⟩ := hc
  dsimp only at h1 h2 h3 ⊢
  clear h3
  have hbel := (Below.refl w.heap.size w).alloc (Nat.le_refl _) (.cells #[.string k, .bool h, .string v] 41)
  have HW0 := Lib.hid (hW.below hbel)
  have HB0 := Lib.hid (hbel.mono (Nat.le_of_lt hW.lt))
  have HG := Lib.hid (show b < w.heap.size from hW.lt)
  have HN := Lib.hid (heap_alloc_new w (.cells #[.string k, .bool h, .string v] 41))
  have hlt := hW.lt
  have z0 : (w.alloc (.cells #[.string k, .bool h, .string v] 41)).cell? ⟨w.heap.size, 1, none⟩ = some (.bool h) := cell_of_row _ _ 1 _ _ _ HN.out
  clear hbel hW
  obtain ⟨gc, hgc⟩ : ∃ g, w.heap.size = g := ⟨_, rfl⟩
  rw [hgc] at HN HG z0
  have HNE := Lib.hid (show gc ≠ b by rw [← hgc]; omega)
  have row : ∀ (w1 w2 : World), w1.heap[gc]? = some (.cells #[.string k, .bool h, .string v] 41 (0, 0)) → Kp b w1 w2 → w2.heap[gc]? = some (.cells #[.string k, .bool h, .string v] 41 (0, 0)) := fun _ _ h1 h2 => h2 gc _ _ _ HNE.out (by decide) h1
  have HROW := Lib.hid row
  clear row hlt
  cases h with
  | false =>
    have HX := Lib.hid (show wrC ⟨k, false, v⟩ = be 1 0 ++ txt k from rfl)
    have HC1 := Lib.hid (wkind 0 (by decide) HW0.out (by omega) 0 rfl)
    go_enter Tryz.func96, Tryz.ntmps96
    go_wp2_with fail
    generalize w.alloc (.cells #[.string k, .bool false, .string v] 41) = W0 at *
    (with_reducible refine HC1.out.mono ?_)
    rintro e w1 ⟨rfl, hw1, hb1, hk1⟩
    have HR1 := Lib.hid (HROW.out _ _ HN.out hk1)
    have y0 : w1.cell? ⟨gc, 0, none⟩ = some (.string k) := cell_of_row _ _ 0 _ _ _ HR1.out
    have HC2 := Lib.hid (wtext k h1 hw1 (by rw [List.length_append, be_length]; omega))
    have B1 := Lib.hid (HB0.out.trans hb1)
    clear hw1 hb1 hk1 HC1
    go_wp2_with fail
    (with_reducible refine HC2.out.mono ?_)
    rintro e w2 ⟨rfl, hw2, hb2, hk2⟩
    have HW2 := Lib.hid hw2
    have B2 := Lib.hid (B1.out.trans hb2)
    clear hw2 hb2 hk2 HC2
    go_wp2
    refine bodyPost_ret (results_none rfl _ _ _) rfl ?_
    exact ⟨rfl, by rw [HX.out, ← List.append_assoc]; exact HW2.out, B2.out⟩
  | true =>
    have HX := Lib.hid (show wrC ⟨k, true, v⟩ = be 1 1 ++ (txt k ++ txt v) from rfl)
    have HC1 := Lib.hid (wkind 1 (by decide) HW0.out (by omega) 1 rfl)
    go_enter Tryz.func96, Tryz.ntmps96
    go_wp2_with fail
    generalize w.alloc (.cells #[.string k, .bool true, .string v] 41) = W0 at *
    (with_reducible refine HC1.out.mono ?_)
    rintro e w1 ⟨rfl, hw1, hb1, hk1⟩
    have HR1 := Lib.hid (HROW.out _ _ HN.out hk1)
    have y0 : w1.cell? ⟨gc, 0, none⟩ = some (.string k) := cell_of_row _ _ 0 _ _ _ HR1.out
    have HC2 := Lib.hid (wtext k h1 hw1 (by rw [List.length_append, be_length]; omega))
    have B1 := Lib.hid (HB0.out.trans hb1)
    clear hw1 hb1 hk1 HC1
    go_wp2_with fail
    (with_reducible refine HC2.out.mono ?_)
    rintro e w2 ⟨rfl, hw2, hb2, hk2⟩
    have HR2 := Lib.hid (HROW.out _ _ HR1.out hk2)
    have y2 : w2.cell? ⟨gc, 2, none⟩ = some (.string v) := cell_of_row _ _ 2 _ _ _ HR2.out
    have HC3 := Lib.hid (wtext v h2 hw2 (by rw [List.length_append, List.length_append, be_length, txt_len]; omega))
    have B2 := Lib.hid (B1.out.trans hb2)
    clear hw2 hb2 hk2 HC2
    go_wp2_with fail
    (with_reducible refine HC3.out.mono ?_)
    rintro e w3 ⟨rfl, hw3, hb3, hk3⟩
    have HW3 := Lib.hid hw3
    have B3 := Lib.hid (B2.out.trans hb3)
    clear hw3 hb3 hk3 HC3
    go_wp2
    go_end0
    exact ⟨rfl, by rw [HX.out, ← List.append_assoc, ← List.append_assoc]; exact HW3.out, B3.out⟩
/-! ## the mark -/
variable {tK tS : TypeId}
/-- the two tables of the hash -/
def Kt (tK tS : TypeId) (w : World) : Prop := Row w 1 tK kc ∧ Row w 0 tS first.list
theorem Kt.go {w w' : World} (h : Kt tK tS w) (hb : Below w.heap.size w w') : Kt tK tS w' := ⟨row_below h.1 hb h.1.lt, row_below h.2 hb h.2.lt⟩
theorem Kt.lt {w : World} (h : Kt tK tS w) : 1 < w.heap.size ∧ 0 < w.heap.size := ⟨h.1.lt, h.2.lt⟩
theorem sum_kt (x : ByteArray) (hx : x.size ≤ 140737488351232) (w : World) (h : Kt tK tS w) :
    Calls Tryz.prog 33 #[.string x] w fun e w' => ∃ C, C = (u8s (hashOf x.data.toList)).toArray ∧ e = .returned (.agg C) ∧ Below w.heap.size w w' := sum_lit x hx w h.1 h.2
def itB (x : Itm) : List UInt8 := txt x.k ++ txt x.v
def mkL (L : List Itm) : List UInt8 := L.flatMap itB
theorem itB_len {x : Itm} (h : It.okI x = true) : (itB x).length ≤ 212 ∧ x.k.size < 65536 ∧ x.v.size < 65536 := by
  simp only [It.okI, It.okKey, Bool.and_eq_true, decide_eq_true_iff] at h
  unfold itB
  rw [List.length_append, txt_len, txt_len]
  omega
theorem flat_len {D : List Itm} (h : ∀ x ∈ D, It.okI x = true) : (mkL D).length ≤ D.length * 212 := by
  induction D with
  | nil => exact Nat.zero_le _
  | cons x D ih =>
    have h1 := ih fun y hy => h y (List.mem_cons_of_mem _ hy)
    have h2 := (itB_len (h x List.mem_cons_self)).1
    unfold mkL at h1 ⊢
    rw [List.flatMap_cons, List.length_append, List.length_cons]
    omega
theorem flat_snoc' {α : Type} (f : α → List UInt8) {D : List α} {i : Nat} {x : α} (h : D[i]? = some x) : (D.take (i + 1)).flatMap f = (D.take i).flatMap f ++ f x := by
  rw [List.take_add_one, h, List.flatMap_append]
  simp
theorem infoH {l : List UInt8} (h : l.length = 32) : (Tryz.prog.info? 54).map (·.size) = some (u8s l).toArray.size := by
  rw [List.size_toArray, u8s_length, h]; kernel_rfl
def zH : Array Value := #[.int .u8 0, .int .u8 0, .int .u8 0, .int .u8 0, .int .u8 0, .int .u8 0, .int .u8 0, .int .u8 0, .int .u8 0, .int .u8 0, .int .u8 0, .int .u8 0, .int .u8 0, .int .u8 0, .int .u8 0, .int .u8 0, .int .u8 0, .int .u8 0, .int .u8 0, .int .u8 0, .int .u8 0, .int .u8 0, .int .u8 0, .int .u8 0, .int .u8 0, .int .u8 0, .int .u8 0, .int .u8 0, .int .u8 0, .int .u8 0, .int .u8 0, .int .u8 0]
set_option maxHeartbeats 8000000 in
theorem mark_any (D : List Itm) (hok : ∀ x ∈ D, It.okI x = true) (A : Option Addr) (n cap : Nat) (hn : n = D.length) (hm : n ≤ 16777216) (w : World) (hK : Kt tK tS w) (hD : Ls It.enc 2 w w.heap.size A D) :
    Calls Tryz.prog 50 #[.slice A n cap] w fun e w' => e = .returned (.agg (u8s (hashOf (mkL D))).toArray) ∧ Below w.heap.size w w' := by
  have HN := Lib.hid hn
  have HL := Lib.hid hD
  have HK := Lib.hid hK
  have HO := Lib.hid hok
  have HFL := Lib.hid (flat_len hok)
  clear hn hD hK hok
  have hb1 := (Below.refl w.heap.size w).alloc (Nat.le_refl _) (.cells zH 54)
  have hs1 : (w.alloc (.cells zH 54)).heap.size = w.heap.size + 1 := by simp
  have hn1 := heap_alloc_new w (.cells zH 54)
  have hw2 := Wb.new (w.alloc (.cells zH 54))
  have hb2 := (Below.refl (w.heap.size + 1) (w.alloc (.cells zH 54))).alloc (by rw [hs1]; exact Nat.le_refl _) (.cells #[.pointer none, .slice none 0 0] 154)
  rw [hs1] at hw2
  have HW2 := Lib.hid hw2
  have HB2 := Lib.hid (hb1.trans (hb2.mono (Nat.le_succ _)))
  have HH2 := Lib.hid ((hb2.block w.heap.size (Nat.lt_succ_self _)).trans hn1)
  clear hb1 hs1 hn1 hw2 hb2
  go_enter Tryz.func50, Tryz.ntmps50
  go_wp2_with fail
  go_loopw [8] (fun v wr => ∃ i : Nat, i ≤ n ∧ v = .int .i64 i ∧ Hid (Wb wr (w.heap.size + 1) (mkL (D.take i)) ∧ Below w.heap.size w wr ∧ wr.heap[w.heap.size]? = some (.cells zH 54 (0, 0)))) (fun v _ => n - (intOf v).toNat)
  case atStart => exact ⟨0, Nat.zero_le _, by go_num, Lib.hid ⟨HW2.out, HB2.out, HH2.out⟩⟩
  case round =>
    clear HW2 HB2 HH2
    obtain ⟨wo, rfl⟩ : ∃ wo : World, wo = wr := ⟨_, rfl⟩
    obtain ⟨i, hi, rfl, hrel⟩ := hrel
    obtain ⟨hwb, hbl, hrow⟩ := hrel.out
    by_cases hlt : i < n
    · obtain ⟨x, hx⟩ : ∃ x, D[i]? = some x := ⟨_, List.getElem?_eq_getElem (by rw [← HN.out]; exact hlt)⟩
      obtain ⟨bx, o, hAe, hbx, hr⟩ := (HL.out.below hbl) i x hx
      have hc0 : wo.cell? ⟨bx, o + i * 2, none⟩ = some (.string x.k) := hr 0 _ rfl
      have hc1 : wo.cell? ⟨bx, o + i * 2 + 1, none⟩ = some (.string x.v) := hr 1 _ rfl
      have hbs : bx < wo.heap.size := Nat.lt_of_lt_of_le hbx hbl.size
      subst hAe
      obtain ⟨l1, l2, l3⟩ := itB_len (HO.out x (List.mem_of_getElem? hx))
      have HSN := Lib.hid (show mkL (D.take (i + 1)) = mkL (D.take i) ++ txt x.k ++ txt x.v by
        have := flat_snoc' itB hx
        unfold mkL
        rw [this, List.append_assoc]; rfl)
      have hlen : (mkL (D.take i)).length ≤ 3556769792 := by
        have h1 := flat_len (D := D.take i) (fun y hy => HO.out y (List.mem_of_mem_take hy))
        rw [List.length_take] at h1
        omega
      have hlk : x.k.size ≤ 212 := by
        unfold itB at l1
        rw [List.length_append, txt_len, txt_len] at l1
        omega
      obtain ⟨L, hL⟩ : ∃ L, mkL (D.take i) = L := ⟨_, rfl⟩
      rw [hL] at hwb hlen HSN
      obtain ⟨xk, xv⟩ := x
      dsimp only at hc0 hc1 l2 l3 HSN hlk
      have hbel := (Below.refl wo.heap.size wo).alloc (Nat.le_refl _) (.cells #[.string xk, .string xv] 82)
      have HNX := Lib.hid (heap_alloc_new wo (.cells #[.string xk, .string xv] 82))
      have HW1 := Lib.hid (hwb.below hbel)
      have HB1 := Lib.hid (hbl.trans (hbel.mono hbl.size))
      have HR1 := Lib.hid ((hbel.block w.heap.size (Nat.lt_of_succ_lt hwb.lt)).trans hrow)
      have HGX := Lib.hid (show wo.heap.size ≠ w.heap.size + 1 by have := hwb.lt; omega)
      have HT1 := Lib.hid (wtext xk l2 HW1.out (by omega))
      have HLX := Lib.hid (show L.length + (txt xk).length ≤ 140737488289000 by rw [txt_len]; omega)
      have HL3 := Lib.hid l3
      obtain ⟨gx, hgx⟩ : ∃ g, wo.heap.size = g := ⟨_, rfl⟩
      rw [hgx] at HNX HGX
      have z0 : (wo.alloc (.cells #[.string xk, .string xv] 82)).cell? ⟨gx, 0, none⟩ = some (.string xk) := cell_of_row _ _ 0 _ _ _ HNX.out
      clear hrel hwb hbl hrow hr hx hbel hL l1 l2 l3 hlen hlk
      go_wp2_with fail
      generalize wo.alloc (.cells #[.string xk, .string xv] 82) = W3 at *
      (with_reducible refine HT1.out.mono ?_)
      rintro e w4 ⟨rfl, hw4, hb4, hk4⟩
      have HB4 := Lib.hid (HB1.out.trans (hb4.mono (Nat.le_succ _)))
      have HR4 := Lib.hid ((hb4.block w.heap.size (Nat.lt_succ_self _)).trans HR1.out)
      have HN4 := Lib.hid (hk4 gx _ _ _ HGX.out (by decide) HNX.out)
      have z1 : w4.cell? ⟨gx, 1, none⟩ = some (.string xv) := cell_of_row _ _ 1 _ _ _ HN4.out
      have HT4 := Lib.hid (wtext xv HL3.out hw4 (by rw [List.length_append]; exact HLX.out))
      clear hw4 hb4 hk4 z0 HT1 HW1 HB1 HR1 HNX hgx hc0 hc1
      go_wp2_with fail
      (with_reducible refine HT4.out.mono ?_)
      rintro e w5 ⟨rfl, hw5, hb5, hk5⟩
      have HB5 := Lib.hid (HB4.out.trans (hb5.mono (Nat.le_succ _)))
      have HR5 := Lib.hid ((hb5.block w.heap.size (Nat.lt_succ_self _)).trans HR4.out)
      have HW5 := Lib.hid hw5
      clear hw5 hb5 hk5 HT4 z1
      go_wp2_with fail
      exact ⟨⟨i + 1, by omega, by go_num, Lib.hid ⟨by rw [HSN.out]; exact HW5.out, HB5.out, HR5.out⟩⟩, by simp [intOf] <;> omega⟩
    · obtain rfl : i = n := by omega
      rw [HN.out, List.take_length] at hwb
      obtain ⟨L, hL⟩ : ∃ L, mkL D = L := ⟨_, rfl⟩
      rw [hL] at hwb HFL
      have HLM := Lib.hid hL
      have HS := Lib.hid (stringB hwb)
      have HLL := Lib.hid (show (bs L).size ≤ 140737488351232 by show L.length ≤ _; have := HFL.out; rw [← HN.out] at this; omega)
      have HB := Lib.hid hbl
      have HRW := Lib.hid hrow
      clear hrel hwb hbl hrow hL HFL
      go_wp2_with fail
      (with_reducible refine HS.out.mono ?_)
      rintro e w4 ⟨rfl, hb4⟩
      have HB4 := Lib.hid (HB.out.trans (hb4.mono (Nat.le_succ _)))
      have HR4 := Lib.hid ((hb4.block w.heap.size (Nat.lt_succ_self _)).trans HRW.out)
      have HK4 := Lib.hid (HK.out.go HB4.out)
      clear hb4 HS HB HRW
      go_wp2_with fail
      (with_reducible refine (sum_kt (bs L) HLL.out _ HK4.out).mono ?_)
      rintro e w5 ⟨C, hC, rfl, hb5⟩
      have HB5 := Lib.hid (HB4.out.trans (hb5.mono HB4.out.size))
      have HR5 := Lib.hid ((hb5.block w.heap.size (Array.getElem?_eq_some_iff.1 HR4.out).1).trans HR4.out)
      replace hC : C = (u8s (hashOf L)).toArray := hC
      have HI := Lib.hid (show (Tryz.prog.info? 54).map (·.size) = some C.size by rw [hC]; exact infoH (Hk.hash_length _))
      have HZ := Lib.hid (show zH.size = C.size from (show zH.size = 32 from rfl).trans (by rw [hC, List.size_toArray, u8s_length, Hk.hash_length]))
      have HONE := Lib.hid (show C.all (·.oneCell') = true by rw [hC]; exact Hk.u8s_one _)
      have HC := Lib.hid hC
      clear hC hb5 HR4 HB4
      go_wp2_with (refine wpList_store_row rfl 54 (.tmp 2) (.tmp 21) rfl w.heap.size C rfl rfl 54 zH HR5.out HI.out HZ.out HONE.out ?_)
      have hg2 := setRow_heap w5 w.heap.size zH C 54 (0, 0) HR5.out
      try simp only [Exit.inBlock, Exit.then]
      refine bodyPost_ret (v := .agg C) (results_cell_row rfl _ _ w.heap.size 54 C (0, 0) _ rfl hg2 Tryz.underlying54 rfl HI.out) rfl ?_
      exact ⟨by rw [HLM.out, HC.out], Hk.below_setRow HB5.out (Nat.le_refl _) _⟩
end Go.Proofs.YtjkmfonngbendaaGreatDoor.Se
/- Package stream: a stream's bytes. -/
namespace Go.Proofs.YtjkmfonngbendaaGreatDoor.Se
set_option linter.unusedVariables false
set_option linter.unusedSimpArgs false
set_option maxRecDepth 100000
open Go.ChangeShapes Go.WideShapes Go.ChangeAt Go.RowKit
open BigFrame
open Ar Rg
open Pk (be num be_length u8s u8s_length crc psum_any)
open Nd (bs)
open It (Itm Ch)
theorem psum_q (x : ByteArray) (hx : x.size ≤ 281474976710656) (w : World) :
    Calls Tryz.prog 32 #[.string x] w fun e w' => e = .returned (.int .u32 ((crc x.data.toList).toNat : Nat)) ∧ Below w.heap.size w w' := psum_any x w hx
theorem flatC_len {D : List Ch} (h : ∀ x ∈ D, x.k.size ≤ 48 ∧ x.v.size ≤ 160) : (D.flatMap wrC).length ≤ D.length * 213 := by
  induction D with
  | nil => exact Nat.zero_le _
  | cons x D ih =>
    have h1 := ih fun y hy => h y (List.mem_cons_of_mem _ hy)
    have h2 := wrC_len x
    have h3 := h x List.mem_cons_self
    rw [List.flatMap_cons, List.length_append, List.length_cons]
    omega
theorem ne_app {a b : List UInt8} (h : a ≠ []) : a ++ b ≠ [] := by
  intro e
  exact h (List.append_eq_nil_iff.1 e).1
set_option maxHeartbeats 8000000 in
theorem written_any (base : List UInt8) (hb : base.length = 32) (D : List Ch) (hD : ∀ x ∈ D, okc x) (hsz : ∀ x ∈ D, x.k.size ≤ 48 ∧ x.v.size ≤ 160) (A : Option Addr) (n cap : Nat) (hn : n = D.length) (hm : n ≤ 16777216) (cs : Array Value) (hcs : cs = (u8s base ++ [Value.slice A n cap]).toArray) (w : World) (hL : Ls Sc.enc 3 w w.heap.size A D) :
    Calls Tryz.prog 51 #[.agg cs] w fun e w' => e = .returned (.string (bs (wrS base D))) ∧ Below w.heap.size w w' := by
  have HN := Lib.hid hn
  have HL := Lib.hid hL
  have HO := Lib.hid hD
  have HZ := Lib.hid hsz
  have HBL := Lib.hid hb
  have hbl : (u8s base).length = 32 := by rw [u8s_length, hb]
  have c32 : cs[32]? = some (.slice A n cap) := by
    rw [hcs, List.getElem?_toArray, List.getElem?_append_right (by omega), hbl]; rfl
  have cb : ∀ j u, (u8s base)[j]? = some u → cs[j]? = some u := fun j u hu => by
    rw [hcs, List.getElem?_toArray, List.getElem?_append_left (List.getElem?_eq_some_iff.1 hu).1]; exact hu
  have hn1 := heap_alloc_new w (.cells cs 106)
  have hb1 := (Below.refl w.heap.size w).alloc (Nat.le_refl _) (.cells cs 106)
  have hs1 : (w.alloc (.cells cs 106)).heap.size = w.heap.size + 1 := by simp
  have hw2 := Wb.new (w.alloc (.cells cs 106))
  have hb2 := (Below.refl (w.heap.size + 1) (w.alloc (.cells cs 106))).alloc (by rw [hs1]; exact Nat.le_refl _) (.cells #[.pointer none, .slice none 0 0] 154)
  rw [hs1] at hw2
  have HB2 := Lib.hid (hb1.trans (hb2.mono (Nat.le_succ _)))
  have HR2 := Lib.hid ((hb2.block w.heap.size (Nat.lt_succ_self _)).trans hn1)
  have HS2 := Lib.hid (show Calls Tryz.prog 93 #[.pointer (some ⟨w.heap.size + 1, 0, none⟩), .string ⟨#[67, 83]⟩] ((w.alloc (.cells cs 106)).alloc (.cells #[.pointer none, .slice none 0 0] 154)) _ from writeS hw2 [67, 83] (by decide) (by decide))
  have HC32 := Lib.hid c32
  have HCB := Lib.hid cb
  clear hn hL hD hsz hb1 hs1 hn1 hw2 hb2 hbl c32 cb hcs hb
  go_enter Tryz.func51, Tryz.ntmps51
  go_wp2_with fail
  (with_reducible refine HS2.out.mono ?_)
  rintro e w3 ⟨rfl, hw3, hb3, hk3⟩
  have HB3 := Lib.hid (HB2.out.trans (hb3.mono (Nat.le_succ _)))
  have HR3 := Lib.hid ((hb3.block w.heap.size (Nat.lt_succ_self _)).trans HR2.out)
  have HS3 := Lib.hid (writeB hw3 base (ne_len (by rw [HBL.out]; decide)) (by rw [HBL.out]; decide) w.heap.size 0 32 32 HBL.out.symm (Nat.le_refl _) (by unfold maxLen; decide) (Nat.lt_succ_self _) (fun j u hu => by rw [Nat.zero_add]; exact (cell_of_row _ _ j _ _ _ HR3.out).trans (HCB.out j u hu)))
  clear hw3 hb3 hk3 HS2 HB2 HR2 HCB
  go_wp2_with fail
  (with_reducible refine HS3.out.mono ?_)
  rintro e w4 ⟨rfl, hw4, hb4, hk4⟩
  have HB4 := Lib.hid (HB3.out.trans (hb4.mono (Nat.le_succ _)))
  have HR4 := Lib.hid ((hb4.block w.heap.size (Nat.lt_succ_self _)).trans HR3.out)
  have z4 : w4.cell? ⟨w.heap.size, 32, none⟩ = some (.slice A n cap) := (cell_of_row _ _ 32 _ _ _ HR4.out).trans HC32.out
  have HS4 := Lib.hid (show Calls Tryz.prog 95 #[.pointer (some ⟨w.heap.size + 1, 0, none⟩), .int .u64 n, .int .i64 4] w4 _ from wnumber n 4 (by decide) (by decide) (show n < 4294967296 by omega) (by omega) hw4 (by rw [List.length_append, List.length_append, HBL.out]; decide))
  clear hw4 hb4 hk4 HS3 HB3 HR3
  go_wp2_with fail
  (with_reducible refine HS4.out.mono ?_)
  rintro e w5 ⟨rfl, hw5, hb5, hk5⟩
  have HB5 := Lib.hid (HB4.out.trans (hb5.mono (Nat.le_succ _)))
  have HR5 := Lib.hid ((hb5.block w.heap.size (Nat.lt_succ_self _)).trans HR4.out)
  have z5 : w5.cell? ⟨w.heap.size, 32, none⟩ = some (.slice A n cap) := (cell_of_row _ _ 32 _ _ _ HR5.out).trans HC32.out
  obtain ⟨P, hP⟩ : ∃ P, [] ++ [67, 83] ++ base ++ be 4 n = P := ⟨_, rfl⟩
  rw [hP] at hw5
  have HP := Lib.hid hP
  have HPL := Lib.hid (show P.length = 38 by rw [← hP]; simp only [List.length_append, be_length, HBL.out]; rfl)
  have HW5 := Lib.hid hw5
  clear hw5 hb5 hk5 HS4 HB4 HR4 z4 hP
  go_wp2_with fail
  go_loopw [20] (fun v wr => ∃ i : Nat, i ≤ n ∧ v = .int .i64 i ∧ Hid (Wb wr (w.heap.size + 1) (P ++ (D.take i).flatMap wrC) ∧ Below w.heap.size w wr)) (fun v _ => n - (intOf v).toNat)
  case atStart => exact ⟨0, Nat.zero_le _, by go_num, Lib.hid ⟨by simpa using HW5.out, HB5.out⟩⟩
  case round =>
    clear HW5 HB5 HR5 z5
    obtain ⟨wo, rfl⟩ : ∃ wo : World, wo = wr := ⟨_, rfl⟩
    obtain ⟨i, hi, rfl, hrel⟩ := hrel
    obtain ⟨hwb, hbl⟩ := hrel.out
    by_cases hlt : i < n
    · obtain ⟨x, hx⟩ : ∃ x, D[i]? = some x := ⟨_, List.getElem?_eq_getElem (by rw [← HN.out]; exact hlt)⟩
      obtain ⟨bx, o, hAe, hbx, hr⟩ := (HL.out.below hbl) i x hx
      have hc0 : wo.cell? ⟨bx, o + i * 3, none⟩ = some (.string x.k) := hr 0 _ rfl
      have hc1 : wo.cell? ⟨bx, o + i * 3 + 1, none⟩ = some (.bool x.h) := hr 1 _ rfl
      have hc2 : wo.cell? ⟨bx, o + i * 3 + 2, none⟩ = some (.string x.v) := hr 2 _ rfl
      have hbs : bx < wo.heap.size := Nat.lt_of_lt_of_le hbx hbl.size
      subst hAe
      have HSN := Lib.hid (show P ++ (D.take (i + 1)).flatMap wrC = P ++ (D.take i).flatMap wrC ++ wrC x by rw [flat_snoc' wrC hx, List.append_assoc])
      have hlen : (P ++ (D.take i).flatMap wrC).length ≤ 3573547046 := by
        have h1 := flatC_len (D := D.take i) (fun y hy => HZ.out y (List.mem_of_mem_take hy))
        rw [List.length_take] at h1
        rw [List.length_append, HPL.out]
        omega
      obtain ⟨L, hL⟩ : ∃ L, P ++ (D.take i).flatMap wrC = L := ⟨_, rfl⟩
      rw [hL] at hwb hlen HSN
      have HOX := Lib.hid (HO.out x (List.mem_of_getElem? hx))
      have hbel := (Below.refl wo.heap.size wo).alloc (Nat.le_refl _) (.cells #[.string x.k, .bool x.h, .string x.v] 41)
      have HW1 := Lib.hid (hwb.below hbel)
      have HB1 := Lib.hid (hbl.trans (hbel.mono hbl.size))
      have HT1 := Lib.hid (wchange x HOX.out HW1.out (by omega))
      clear hrel hwb hbl hr hx hbel hL hlen HOX
      obtain ⟨xk, xh, xv⟩ := x
      dsimp only at hc0 hc1 hc2 HSN HW1 HB1 HT1
      go_wp2_with fail
      generalize wo.alloc (.cells #[.string xk, .bool xh, .string xv] 41) = W3 at *
      (with_reducible refine HT1.out.mono ?_)
      rintro e w6 ⟨rfl, hw6, hb6⟩
      have HB6 := Lib.hid (HB1.out.trans (hb6.mono (Nat.le_succ _)))
      have HW6 := Lib.hid hw6
      clear hw6 hb6 HT1 HW1 HB1 hc0 hc1 hc2
      go_wp2_with fail
      exact ⟨⟨i + 1, by omega, by go_num, Lib.hid ⟨by rw [HSN.out]; exact HW6.out, HB6.out⟩⟩, by simp [intOf] <;> omega⟩
    · obtain rfl : i = n := by omega
      rw [HN.out, List.take_length] at hwb
      have hlen : (P ++ D.flatMap wrC).length ≤ 3573547046 := by
        have h1 := flatC_len HZ.out
        rw [← HN.out] at h1
        rw [List.length_append, HPL.out]
        omega
      have HWS := Lib.hid (show wrS base D = (P ++ D.flatMap wrC) ++ sumB (P ++ D.flatMap wrC) by
        have e : wrB base D = P ++ D.flatMap wrC := by
          unfold wrB
          rw [← HP.out, HN.out]
          simp [List.append_assoc]
        unfold wrS
        rw [e])
      have hne : P ++ D.flatMap wrC ≠ [] := ne_len (by rw [List.length_append, HPL.out]; omega)
      obtain ⟨L, hL⟩ : ∃ L, P ++ D.flatMap wrC = L := ⟨_, rfl⟩
      rw [hL] at hwb hlen HWS hne
      have HS := Lib.hid (stringF (hwb.f hne))
      have HB := Lib.hid hbl
      have HPS := Lib.hid (fun w => psum_q (bs L) (by show L.length ≤ _; omega) w)
      have HQ := Lib.hid (show sumB L = be 4 (crc L).toNat from rfl)
      have HQ9 := Lib.hid (show (crc L).toNat < 4294967296 from (crc L).isLt)
      have e9 : (bs L).data.toList = L := rfl
      rw [e9] at HPS
      obtain ⟨q, hq⟩ : ∃ q, (crc L).toNat = q := ⟨_, rfl⟩
      rw [hq] at HPS HQ HQ9
      have HLL := Lib.hid hlen
      have q1 : IntKind.u64.wrap (q : Int) = (q : Int) := by have := HQ9.out; simp [IntKind.wrap, IntKind.bits, IntKind.signed]; omega
      clear hrel hwb hbl hL hlen hne e9 hq
      go_wp2_with fail
      (with_reducible refine HS.out.mono ?_)
      rintro e w4 ⟨rfl, hf4, hb4⟩
      have HB4 := Lib.hid (HB.out.trans (hb4.mono (Nat.le_succ _)))
      have HF4 := Lib.hid hf4
      clear hb4 hf4 HS HB
      go_wp2_with fail
      (with_reducible refine (HPS.out _).mono ?_)
      rintro e w5 ⟨rfl, hb5⟩
      have HB5 := Lib.hid (HB4.out.trans (hb5.mono HB4.out.size))
      have HF5 := Lib.hid (HF4.out.below hb5)
      have HT5 := Lib.hid (show Calls Tryz.prog 95 #[.pointer (some ⟨w.heap.size + 1, 0, none⟩), .int .u64 q, .int .i64 4] w5 _ from wnumberF q 4 (by decide) (by decide) (show q < 4294967296 from HQ9.out) (by have := HQ9.out; omega) HF5.out (by have := HLL.out; omega))
      clear hb5 HB4 HF4 HPS
      go_wp2_with fail
      (with_reducible refine HT5.out.mono ?_)
      rintro e w6 ⟨rfl, hf6, hb6, hk6⟩
      have HB6 := Lib.hid (HB5.out.trans (hb6.mono (Nat.le_succ _)))
      have HS6 := Lib.hid (stringF hf6)
      clear hf6 hb6 hk6 HT5 HF5 HB5
      go_wp2_with fail
      (with_reducible refine HS6.out.mono ?_)
      rintro e w7 ⟨rfl, _, hb7⟩
      have HB7 := Lib.hid (HB6.out.trans (hb7.mono (Nat.le_succ _)))
      clear hb7 HB6 HS6
      go_wp2
      go_ret
      exact ⟨by rw [HWS.out, HQ.out]; rfl, HB7.out⟩
end Go.Proofs.YtjkmfonngbendaaGreatDoor.Se
/- A taker of package stream: what its methods take. -/
namespace Go.Proofs.YtjkmfonngbendaaGreatDoor.Se
set_option linter.unusedVariables false
set_option linter.unusedSimpArgs false
set_option maxRecDepth 100000
open Go.ChangeShapes Go.WideShapes Go.ChangeAt Go.RowKit
open BigFrame
open Ar Rg
open Pk (be num be_length u8s u8s_length tN tR tE uN uOk uT uR uE)
open Nd (S tkNum tkBytes bs)
open Di (Off)
/-- a taker in block g -/
def Ta (w : World) (g : Nat) (s : S) : Prop := w.heap[g]? = some (.cells #[.string (bs s.1), .bool s.2] 171 (0, 0))
section
variable {w w' : World} {g : Nat} {s : S}
theorem Ta.lt (h : Ta w g s) : g < w.heap.size := (Array.getElem?_eq_some_iff.1 h).1
theorem Ta.below (h : Ta w g s) (hb : Below w.heap.size w w') : Ta w' g s := (hb.block g h.lt).trans h
theorem Ta.off {X : Nat → Prop} (h : Ta w g s) (ho : Off X w w') (hX : ¬ X g) : Ta w' g s := (ho.block g h.lt hX).trans h
theorem Ta.c0 (h : Ta w g s) : w.cell? ⟨g, 0, none⟩ = some (.string (bs s.1)) := cell_of_row _ _ 0 _ _ _ h
theorem Ta.c1 (h : Ta w g s) : w.cell? ⟨g, 1, none⟩ = some (.bool s.2) := cell_of_row _ _ 1 _ _ _ h
theorem Ta.fz (h : Ta w g s) (i : Nat) : w.frozen? ⟨g, i, none⟩ = false := Lib.frozen_of_heap h i
theorem Ta.set0 (h : Ta w g s) (r : List UInt8) : Ta (w.setCell ⟨g, 0, none⟩ (.string (bs r))) g (r, s.2) := by
  unfold Ta at h ⊢
  simp [World.setCell, h, Array.getElem?_modify]
theorem Ta.set1 (h : Ta w g s) (q : Bool) : Ta (w.setCell ⟨g, 1, none⟩ (.bool q)) g (s.1, q) := by
  unfold Ta at h ⊢
  simp [World.setCell, h, Array.getElem?_modify]
theorem off_set (w : World) (g i : Nat) (v : Value) : Off (fun j => j = g) w (w.setCell ⟨g, i, none⟩ v) := ⟨rfl, rfl, rfl, by simp [World.setCell], fun k _ hk => Below.heap_setCell _ _ _ _ (fun e => hk (by simp [e]))⟩
theorem Ta.two (h : Ta w g s) (r : List UInt8) (q : Bool) : Ta ((w.setCell ⟨g, 0, none⟩ (.string (bs r))).setCell ⟨g, 1, none⟩ (.bool q)) g (r, q) ∧ Off (fun j => j = g) w ((w.setCell ⟨g, 0, none⟩ (.string (bs r))).setCell ⟨g, 1, none⟩ (.bool q)) :=
  ⟨(h.set0 r).set1 q, (off_set w g 0 _).trans (off_set _ g 1 _)⟩
end
theorem bs_sz (l : List UInt8) : (bs l).size = l.length := rfl
theorem bs_ext {x : ByteArray} {l : List UInt8} (h : x.data.toList = l) : x = bs l := by
  rw [← h]; rfl
theorem ex_drop (l : List UInt8) (k : Nat) : (bs l).extract k (bs l).size = bs (l.drop k) := by
  apply bs_ext
  rw [ByteArray.data_extract, Array.toList_extract, List.extract_eq_take_drop, bs_sz]
  show ((l.drop k).take (l.length - k)) = _
  rw [List.take_of_length_le (by rw [List.length_drop]; exact Nat.le_refl _)]
/-- what pack's TakeNumber answers, as bytes -/
theorem num_is (l : List UInt8) (k : Nat) (h1 : 1 ≤ k) (h2 : k ≤ 8) (b : Bool) : tN (bs l) k = ((tkNum k (l, b)).1 : Nat) ∧ tR (bs l) k = bs (tkNum k (l, b)).2.1 ∧ (b || decide (tE (bs l) k ≠ 0)) = (tkNum k (l, b)).2.2 := by
  have hk : ((k : Int)).toNat = k := by simp
  have c2 : 1 ≤ (k : Int) ∧ (k : Int) ≤ 8 := ⟨by omega, by omega⟩
  unfold tN tR tE tkNum
  rw [hk, bs_sz]
  dsimp only
  by_cases h : k ≤ l.length
  · have c1 : 1 ≤ (k : Int) ∧ (k : Int) ≤ 8 ∧ k ≤ l.length := ⟨c2.1, c2.2, h⟩
    simp only [if_pos c1, if_pos c2, if_pos h]
    refine ⟨rfl, ?_, by simp⟩
    have := ex_drop l k
    rwa [bs_sz] at this
  · have c1 : ¬ (1 ≤ (k : Int) ∧ (k : Int) ≤ 8 ∧ k ≤ l.length) := fun e => h e.2.2
    simp only [if_neg c1, if_pos c2, if_neg h]
    exact ⟨rfl, rfl, by simp⟩
/-- what pack's TakeText answers, as bytes -/
theorem txt_is (l : List UInt8) (b : Bool) : uT (bs l) = bs (tkT (l, b)).1 ∧ uR (bs l) = bs (tkT (l, b)).2.1 ∧ (b || decide (uE (bs l) ≠ 0)) = (tkT (l, b)).2.2 := by
  have hd : (bs l).data.toList = l := rfl
  have hdl : (l.drop 2).length = l.length - 2 := List.length_drop
  have hex : (bs l).extract 2 l.length = bs (l.drop 2) := by have := ex_drop l 2; rwa [bs_sz] at this
  by_cases h : 2 ≤ l.length
  · have e1 : tkNum 2 (l, b) = (num (l.take 2), (l.drop 2, b)) := if_pos h
    by_cases h2 : num (l.take 2) ≤ l.length - 2
    · have e2 : tkT (l, b) = ((l.drop 2).take (num (l.take 2)), ((l.drop 2).drop (num (l.take 2)), b)) := by
        unfold tkT
        rw [e1]
        exact if_neg (by show ¬ (l.drop 2).length < _; rw [hdl]; omega)
      have e3 : uOk (bs l) = true := decide_eq_true ⟨h, h2⟩
      unfold uT uR uE
      rw [e2, e3, if_pos rfl, if_pos rfl, if_pos rfl, bs_sz, hex]
      unfold uN
      rw [hd]
      refine ⟨?_, ?_, by simp⟩
      · apply bs_ext
        rw [ByteArray.data_extract, Array.toList_extract, List.extract_eq_take_drop, List.drop_zero, Nat.sub_zero]
        rfl
      · have := ex_drop (l.drop 2) (num (l.take 2))
        rwa [bs_sz, hdl] at this
    · have e2 : tkT (l, b) = ([], ([], true)) := by
        unfold tkT
        rw [e1]
        exact if_pos (by show (l.drop 2).length < _; rw [hdl]; omega)
      have e3 : uOk (bs l) = false := decide_eq_false (fun e => h2 e.2)
      unfold uT uR uE
      rw [e2, e3]
      exact ⟨rfl, rfl, by simp⟩
  · have e2 : tkT (l, b) = ([], ([], true)) := by
      unfold tkT
      rw [show tkNum 2 (l, b) = (0, ([], true)) from if_neg h]
      exact if_neg (by simp)
    have e3 : uOk (bs l) = false := decide_eq_false (fun e => h e.1)
    unfold uT uR uE
    rw [e2, e3]
    exact ⟨rfl, rfl, by simp⟩
theorem num_le (k : Nat) (s : S) : (tkNum k s).2.1.length ≤ s.1.length := by
  unfold tkNum
  split
  · rw [List.length_drop]; omega
  · exact Nat.zero_le _
theorem txt_le (s : S) : (tkT s).2.1.length ≤ s.1.length := by
  have h := num_le 2 s
  unfold tkT tkBytes
  split
  · exact Nat.zero_le _
  · show ((tkNum 2 s).2.1.drop _).length ≤ _
    rw [List.length_drop]; omega
set_option maxHeartbeats 2000000 in
theorem number_ta (k : Nat) (h1 : 1 ≤ k) (h2 : k ≤ 8) {w : World} {g : Nat} {s : S} (h : Ta w g s) (hs : s.1.length ≤ maxLen) :
    Calls Tryz.prog 151 #[.pointer (some ⟨g, 0, none⟩), .int .i64 k] w fun e w' => e = .returned (.int .u64 ((tkNum k s).1 : Nat)) ∧ Ta w' g (tkNum k s).2 ∧ Off (fun j => j = g) w w' := by
  obtain ⟨l, b⟩ := s
  have HT := Lib.hid h
  obtain ⟨e1, e2, e3⟩ := num_is l k h1 h2 b
  have HC := Lib.hid (fun w => Pk.take_any (bs l) k w hs)
  rw [e1, e2] at HC
  obtain ⟨q, hq⟩ : ∃ q, tE (bs l) k = q := ⟨_, rfl⟩
  rw [hq] at HC e3
  obtain ⟨⟨m, r, bb⟩, ht⟩ : ∃ t, tkNum k (l, b) = t := ⟨_, rfl⟩
  rw [ht] at HC e3
  rw [ht]
  dsimp only at HC e3 ⊢
  have z0 := h.c0
  have z1 := h.c1
  dsimp only at z0 z1
  clear h e1 e2 hs ht hq
  cases b with
  | true =>
    have e3 : true = bb := by simpa using e3
    subst e3
    go_enter Tryz.func151, Tryz.ntmps151
    go_wp2_with fail
    (with_reducible refine (HC.out _).mono ?_)
    rintro e w1 ⟨rfl, hb⟩
    have T1 := Lib.hid (HT.out.below hb)
    have O1 := Lib.hid (Off.of_below (X := fun j => j = g) hb)
    have T2 := Lib.hid (T1.out.set0 r)
    have y1 := T2.out.c1
    have y2 := T2.out.fz 1
    have y3 := T1.out.fz 0
    have y4 := T1.out.c0
    dsimp only at y1 y2 y3 y4
    clear hb z0 z1 HT HC
    go_wp2
    go_ret
    exact ⟨rfl, T2.out.set1 _, (O1.out.trans (off_set _ g 0 _)).trans (off_set _ g 1 _)⟩
  | false =>
    by_cases hq0 : q = 0
    · have e3 : false = bb := by rw [← e3, decide_eq_false (fun h => h hq0)]; rfl
      subst e3
      subst hq0
      go_enter Tryz.func151, Tryz.ntmps151
      go_wp2_with fail
      (with_reducible refine (HC.out _).mono ?_)
      rintro e w1 ⟨rfl, hb⟩
      have T1 := Lib.hid (HT.out.below hb)
      have O1 := Lib.hid (Off.of_below (X := fun j => j = g) hb)
      have T2 := Lib.hid (T1.out.set0 r)
      have y1 := T2.out.c1
      have y2 := T2.out.fz 1
      have y3 := T1.out.fz 0
      have y4 := T1.out.c0
      dsimp only at y1 y2 y3 y4
      clear hb z0 z1 HT HC
      go_wp2
      go_ret
      exact ⟨rfl, T2.out.set1 _, (O1.out.trans (off_set _ g 0 _)).trans (off_set _ g 1 _)⟩
    · have e3 : true = bb := by rw [← e3, decide_eq_true hq0]; rfl
      subst e3
      have hne : (q != 0) = true := by rw [bne_iff_ne]; exact hq0
      clear hq0
      go_enter Tryz.func151, Tryz.ntmps151
      go_wp2_with fail
      (with_reducible refine (HC.out _).mono ?_)
      rintro e w1 ⟨rfl, hb⟩
      have T1 := Lib.hid (HT.out.below hb)
      have O1 := Lib.hid (Off.of_below (X := fun j => j = g) hb)
      have T2 := Lib.hid (T1.out.set0 r)
      have y1 := T2.out.c1
      have y2 := T2.out.fz 1
      have y3 := T1.out.fz 0
      have y4 := T1.out.c0
      dsimp only at y1 y2 y3 y4
      clear hb z0 z1 HT HC
      go_wp2
      go_ret
      exact ⟨rfl, T2.out.set1 _, (O1.out.trans (off_set _ g 0 _)).trans (off_set _ g 1 _)⟩
set_option maxHeartbeats 2000000 in
theorem text_ta {w : World} {g : Nat} {s : S} (h : Ta w g s) (hs : s.1.length ≤ maxLen) :
    Calls Tryz.prog 152 #[.pointer (some ⟨g, 0, none⟩)] w fun e w' => e = .returned (.string (bs (tkT s).1)) ∧ Ta w' g (tkT s).2 ∧ Off (fun j => j = g) w w' := by
  obtain ⟨l, b⟩ := s
  have HT := Lib.hid h
  obtain ⟨e1, e2, e3⟩ := txt_is l b
  have HC := Lib.hid (fun w => Pk.taketext_any (bs l) w hs)
  rw [e1, e2] at HC
  obtain ⟨q, hq⟩ : ∃ q, uE (bs l) = q := ⟨_, rfl⟩
  rw [hq] at HC e3
  obtain ⟨⟨m, r, bb⟩, ht⟩ : ∃ t, tkT (l, b) = t := ⟨_, rfl⟩
  rw [ht] at HC e3
  rw [ht]
  dsimp only at HC e3 ⊢
  have z0 := h.c0
  have z1 := h.c1
  dsimp only at z0 z1
  clear h e1 e2 hs ht hq
  cases b with
  | true =>
    have e3 : true = bb := by simpa using e3
    subst e3
    go_enter Tryz.func152, Tryz.ntmps152
    go_wp2_with fail
    (with_reducible refine (HC.out _).mono ?_)
    rintro e w1 ⟨rfl, hb⟩
    have T1 := Lib.hid (HT.out.below hb)
    have O1 := Lib.hid (Off.of_below (X := fun j => j = g) hb)
    have T2 := Lib.hid (T1.out.set0 r)
    have y1 := T2.out.c1
    have y2 := T2.out.fz 1
    have y3 := T1.out.fz 0
    have y4 := T1.out.c0
    dsimp only at y1 y2 y3 y4
    clear hb z0 z1 HT HC
    go_wp2
    go_ret
    exact ⟨rfl, T2.out.set1 _, (O1.out.trans (off_set _ g 0 _)).trans (off_set _ g 1 _)⟩
  | false =>
    by_cases hq0 : q = 0
    · have e3 : false = bb := by rw [← e3, decide_eq_false (fun h => h hq0)]; rfl
      subst e3
      subst hq0
      go_enter Tryz.func152, Tryz.ntmps152
      go_wp2_with fail
      (with_reducible refine (HC.out _).mono ?_)
      rintro e w1 ⟨rfl, hb⟩
      have T1 := Lib.hid (HT.out.below hb)
      have O1 := Lib.hid (Off.of_below (X := fun j => j = g) hb)
      have T2 := Lib.hid (T1.out.set0 r)
      have y1 := T2.out.c1
      have y2 := T2.out.fz 1
      have y3 := T1.out.fz 0
      have y4 := T1.out.c0
      dsimp only at y1 y2 y3 y4
      clear hb z0 z1 HT HC
      go_wp2
      go_ret
      exact ⟨rfl, T2.out.set1 _, (O1.out.trans (off_set _ g 0 _)).trans (off_set _ g 1 _)⟩
    · have e3 : true = bb := by rw [← e3, decide_eq_true hq0]; rfl
      subst e3
      have hne : (q != 0) = true := by rw [bne_iff_ne]; exact hq0
      clear hq0
      go_enter Tryz.func152, Tryz.ntmps152
      go_wp2_with fail
      (with_reducible refine (HC.out _).mono ?_)
      rintro e w1 ⟨rfl, hb⟩
      have T1 := Lib.hid (HT.out.below hb)
      have O1 := Lib.hid (Off.of_below (X := fun j => j = g) hb)
      have T2 := Lib.hid (T1.out.set0 r)
      have y1 := T2.out.c1
      have y2 := T2.out.fz 1
      have y3 := T1.out.fz 0
      have y4 := T1.out.c0
      dsimp only at y1 y2 y3 y4
      clear hb z0 z1 HT HC
      go_wp2
      go_ret
      exact ⟨rfl, T2.out.set1 _, (O1.out.trans (off_set _ g 0 _)).trans (off_set _ g 1 _)⟩
set_option maxHeartbeats 2000000 in
/-- at a taker that is not wrong -/
theorem beginning_ta {w : World} {g : Nat} {l : List UInt8} (h : Ta w g (l, false)) :
    Calls Tryz.prog 104 #[.pointer (some ⟨g, 0, none⟩)] w fun e w' => e = .returned (.tuple #[]) ∧ Ta w' g (hd l) ∧ Off (fun j => j = g) w w' := by
  have HT := Lib.hid h
  have HC := Lib.hid (fun w => Tryz.strings_CutPrefix (bs l) ⟨#[67, 83]⟩ w)
  obtain ⟨r, hr⟩ : ∃ r, Lib.trimPrefix l [67, 83] = r := ⟨_, rfl⟩
  have e0 : (⟨(Lib.trimPrefix (bs l).data.toList (⟨#[67, 83]⟩ : ByteArray).data.toList).toArray⟩ : ByteArray) = bs r := by rw [← hr]; rfl
  obtain ⟨q, hq⟩ : ∃ q, Lib.hasPrefix l [67, 83] = q := ⟨_, rfl⟩
  have e1 : Lib.hasPrefix (bs l).data.toList (⟨#[67, 83]⟩ : ByteArray).data.toList = q := hq
  rw [e0, e1] at HC
  have e2 : hd l = (r, !q) := by
    unfold hd
    unfold Lib.trimPrefix at hr
    rw [hq] at hr
    have hq2 : [67, 83].isPrefixOf l = q := hq
    rw [hq2]
    cases q with
    | true => rw [if_pos rfl] at hr ⊢; rw [← hr]; rfl
    | false => rw [if_neg (by decide)] at hr ⊢; rw [← hr]; rfl
  rw [e2]
  have z0 := h.c0
  have z1 := h.c1
  dsimp only at z0 z1
  clear h e0 e1 e2 hr hq
  cases q with
  | true =>
    go_enter Tryz.func104, Tryz.ntmps104
    have T2 := Lib.hid (HT.out.set0 r)
    have y1 := T2.out.c1
    have y2 := T2.out.fz 1
    have y3 := HT.out.fz 0
    dsimp only at y1 y2 y3
    go_wp2_with fail
    (with_reducible refine (HC.out _).mono ?_)
    rintro e w1 ⟨rfl, rfl⟩
    clear HC
    go_wp2
    go_end0
    exact ⟨rfl, T2.out.set1 _, (off_set _ g 0 _).trans (off_set _ g 1 _)⟩
  | false =>
    go_enter Tryz.func104, Tryz.ntmps104
    have T2 := Lib.hid (HT.out.set0 r)
    have y1 := T2.out.c1
    have y2 := T2.out.fz 1
    have y3 := HT.out.fz 0
    dsimp only at y1 y2 y3
    go_wp2_with fail
    (with_reducible refine (HC.out _).mono ?_)
    rintro e w1 ⟨rfl, rfl⟩
    clear HC
    go_wp2
    go_end0
    exact ⟨rfl, T2.out.set1 _, (off_set _ g 0 _).trans (off_set _ g 1 _)⟩
end Go.Proofs.YtjkmfonngbendaaGreatDoor.Se
/- Items and changes appended to a slice of the call's own; contract of the document's Same. -/
namespace Go.Proofs.YtjkmfonngbendaaGreatDoor.It
set_option linter.unusedVariables false
set_option maxRecDepth 100000
open Go.ChangeShapes Go.WideShapes Go.ChangeAt Go.RowKit
open Ar Rg St
open BigFrame
theorem enc_one (x : Itm) : ∀ u ∈ enc x, u.oneCell' = true := by
  intro v hv
  simp [enc] at hv
  rcases hv with rfl | rfl <;> rfl
theorem infoI : (Tryz.prog.info? 82).map (fun i => (i.zero, i.size, i.bytes)) = some (some (.agg #[.string ByteArray.empty, .string ByteArray.empty]), 2, 32) := by kernel_rfl
theorem infoC : (Tryz.prog.info? 41).map (fun i => (i.zero, i.size, i.bytes)) = some (some (.agg #[.string ByteArray.empty, .bool false, .string ByteArray.empty]), 3, 40) := by kernel_rfl
/-- of the call's own: items, changes -/
abbrev MkI (w wr : World) (v : Value) (D : List Itm) : Prop := Mk enc 2 82 w wr v D
abbrev MkC (w wr : World) (v : Value) (D : List Ch) : Prop := Mk Sc.enc 3 41 w wr v D
theorem catI {ops : Array Oper} {rest : List Oper} {o : Oper} {a : Act} {Q : Exit → Act → World → Prop} {w wr : World} {v : Value} {D : List Itm} (hM : MkI w wr v D) (E : List Itm) (A : Option Addr) (m c : Nat) {B : Nat} (hm : m = E.length) (hL : Ls enc 2 wr B A E) (hlen : D.length + m ≤ 4398046511104)
    (hgd : o.guard = none) (s x : Operand) (ho : o.op = .call { callee := .builtin .append, args := #[s, x], argTypes := #[42, 42] }) (hs : a.eval s = v) (hx : a.eval x = .slice A m c)
    (h : ∀ v' w', MkI w w' v' (D ++ E) → wr.grownBy w' v.ownBlock → wpList Tryz.prog ops Q rest (a.put o.dst v') w') : wpList Tryz.prog ops Q (o :: rest) a wr := by
  obtain ⟨i0, hi, hz0, hz1, hz2⟩ := info_parts infoI
  exact wpList_cat 42 i0 _ 32 Tryz.underlying42 hi hz0 hz1 hz2 rfl (by decide) enc_len enc_one hM m c hm hL (by unfold maxLen; omega) (by omega) hgd s x ho hs hx h
theorem catC {ops : Array Oper} {rest : List Oper} {o : Oper} {a : Act} {Q : Exit → Act → World → Prop} {w wr : World} {v : Value} {D : List Ch} (hM : MkC w wr v D) (E : List Ch) (A : Option Addr) (m c : Nat) {B : Nat} (hm : m = E.length) (hL : Ls Sc.enc 3 wr B A E) (hlen : D.length + m ≤ 3518437208883)
    (hgd : o.guard = none) (s x : Operand) (ho : o.op = .call { callee := .builtin .append, args := #[s, x], argTypes := #[24, 24] }) (hs : a.eval s = v) (hx : a.eval x = .slice A m c)
    (h : ∀ v' w', MkC w w' v' (D ++ E) → wr.grownBy w' v.ownBlock → wpList Tryz.prog ops Q rest (a.put o.dst v') w') : wpList Tryz.prog ops Q (o :: rest) a wr := by
  obtain ⟨i0, hi, hz0, hz1, hz2⟩ := info_parts infoC
  exact wpList_cat 24 i0 _ 40 Tryz.underlying24 hi hz0 hz1 hz2 rfl (by decide) Sc.enc_len Sc.enc_one hM m c hm hL (by unfold maxLen; omega) (by omega) hgd s x ho hs hx h
/-! ## Same -/
def eqI (a b : Itm) : Bool := decide (key a = key b) && decide (a.v.data.toList = b.v.data.toList)
theorem eqI_iff {a b : Itm} : eqI a b = true ↔ a = b := by
  unfold eqI
  rw [Bool.and_eq_true, decide_eq_true_iff, decide_eq_true_iff]
  exact ⟨fun h => itm_ext h.1 h.2, fun h => by subst h; exact ⟨rfl, rfl⟩⟩
def sm : List Itm → List Itm → Bool
  | [], [] => true
  | a :: A, b :: B => eqI a b && sm A B
  | _, _ => false
theorem sm_iff : ∀ {A B : List Itm}, sm A B = true ↔ A = B
  | [], [] => by simp [sm]
  | [], _ :: _ => by simp [sm]
  | _ :: _, [] => by simp [sm]
  | a :: A, b :: B => by
    rw [sm, Bool.and_eq_true, eqI_iff, sm_iff, List.cons.injEq]
theorem sm_no {A B : List Itm} (h : A ≠ B) : sm A B = false := by
  rw [Bool.eq_false_iff]; exact fun e => h (sm_iff.1 e)
theorem take_more {α : Type} {D E : List α} {i : Nat} {x : α} (h : D.take i = E.take i) (hx : D[i]? = some x) (hy : E[i]? = some x) : D.take (i + 1) = E.take (i + 1) := by
  rw [List.take_add_one, List.take_add_one, h, hx, hy]
set_option maxRecDepth 100000 in
set_option maxHeartbeats 1000000 in
theorem same_any (D E : List Itm) (A A' : Option Addr) (n c n' c' B B' : Nat) (hn : n = D.length) (hn' : n' = E.length) (hm : n ≤ 281474976710656) (w : World) (hB : B ≤ w.heap.size) (hB' : B' ≤ w.heap.size) (hD : Ls enc 2 w B A D) (hE : Ls enc 2 w B' A' E) :
    Calls Tryz.prog 30 #[.slice A n c, .slice A' n' c'] w fun e w' => e = .returned (.bool (sm D E)) ∧ Below w.heap.size w w' := by
  have HN := Lib.hid hn
  have HN' := Lib.hid hn'
  have HD := Lib.hid hD
  have HE := Lib.hid hE
  clear hn hn' hD hE
  by_cases hl : n = n'
  · subst hl
    go_enter Tryz.func30, Tryz.ntmps30
    go_wp2_with fail
    go_loopw [13] (fun v wr => ∃ i : Nat, i ≤ n ∧ v = .int .i64 i ∧ Hid (D.take i = E.take i) ∧ Hid (Below w.heap.size w wr)) (fun v _ => n - (intOf v).toNat)
    case atStart => exact ⟨0, Nat.zero_le _, by go_num, rfl, Below.refl _ _⟩
    case round =>
      obtain ⟨i, hi, rfl, htk, hbel⟩ := hrel
      by_cases hlt : i < n
      · obtain ⟨x, hx⟩ : ∃ x, D[i]? = some x := ⟨_, List.getElem?_eq_getElem (by rw [← HN.out]; exact hlt)⟩
        obtain ⟨y, hy⟩ : ∃ y, E[i]? = some y := ⟨_, List.getElem?_eq_getElem (by rw [← HN'.out]; exact hlt)⟩
        obtain ⟨b, o, hAe, hb, hr⟩ := (HD.out.below ((Hid.out hbel).mono hB)) i x hx
        obtain ⟨b', o', hAe', hb', hr'⟩ := (HE.out.below ((Hid.out hbel).mono hB')) i y hy
        have hc0 : wr.cell? ⟨b, o + i * 2, none⟩ = some (.string x.k) := hr 0 _ rfl
        have hc1 : wr.cell? ⟨b, o + i * 2 + 1, none⟩ = some (.string x.v) := hr 1 _ rfl
        have hd0 : wr.cell? ⟨b', o' + i * 2, none⟩ = some (.string y.k) := hr' 0 _ rfl
        have hd1 : wr.cell? ⟨b', o' + i * 2 + 1, none⟩ = some (.string y.v) := hr' 1 _ rfl
        clear hr hr'
        subst hAe hAe'
        by_cases hk : key x = key y
        · have he0 : (x.k.toList == y.k.toList) = true := by rw [str_eq]; exact decide_eq_true hk
          by_cases hv : x.v.data.toList = y.v.data.toList
          · have he1 : (x.v.toList == y.v.toList) = true := by rw [str_eq]; exact decide_eq_true hv
            have HT := Lib.hid (take_more (Hid.out htk) hx ((itm_ext hk hv) ▸ hy))
            clear htk hx hy hk hv
            go_wp2_with fail
            go_big_quiet (fail)
            have HB2 := Lib.hid (below_drewN (Hid.out hbel) nq)
            clear hbel
            generalize World.drewN _ _ = W2 at *
            go_wp2
            exact ⟨⟨i + 1, by omega, by go_num, HT.out, HB2.out⟩, by simp [intOf] <;> omega⟩
          · have he1 : (x.v.toList == y.v.toList) = false := by rw [str_eq]; exact decide_eq_false hv
            have HF := Lib.hid (sm_no (A := D) (B := E) fun e => hv (by rw [e, hy] at hx; cases hx; rfl))
            clear htk hx hy hk hv
            go_wp2_with fail
            go_big_quiet (fail)
            have HB2 := Lib.hid (below_drewN (Hid.out hbel) nq)
            clear hbel
            generalize World.drewN _ _ = W2 at *
            go_wp2
            go_ret
            exact ⟨by rw [HF.out]; rfl, HB2.out⟩
        · have he0 : (x.k.toList == y.k.toList) = false := by rw [str_eq]; exact decide_eq_false hk
          have HF := Lib.hid (sm_no (A := D) (B := E) fun e => hk (by rw [e, hy] at hx; cases hx; rfl))
          clear htk hx hy hk
          go_wp2_with fail
          go_big_quiet (fail)
          have HB2 := Lib.hid (below_drewN (Hid.out hbel) nq)
          clear hbel
          generalize World.drewN _ _ = W2 at *
          go_wp2
          go_ret
          exact ⟨by rw [HF.out]; rfl, HB2.out⟩
      · have HT := Lib.hid (show sm D E = true from sm_iff.2 (by
          have h := Hid.out htk
          rwa [List.take_of_length_le (by rw [← HN.out]; omega), List.take_of_length_le (by rw [← HN'.out]; omega)] at h))
        go_wp2
        go_ret
        exact ⟨by rw [HT.out]; rfl, Hid.out hbel⟩
  · have hne : ((n : Int) != (n' : Int)) = true := by rw [bne_iff_ne]; omega
    have HF := Lib.hid (sm_no (A := D) (B := E) fun e => hl (by rw [HN.out, HN'.out, e]))
    go_enter Tryz.func30, Tryz.ntmps30
    go_wp2
    go_ret
    exact ⟨by rw [HF.out]; rfl, Below.refl _ _⟩
end Go.Proofs.YtjkmfonngbendaaGreatDoor.It
/- A taker of package stream: the changes that it takes. -/
namespace Go.Proofs.YtjkmfonngbendaaGreatDoor.Se
set_option linter.unusedVariables false
set_option linter.unusedSimpArgs false
set_option maxRecDepth 100000
open Go.ChangeShapes Go.WideShapes Go.ChangeAt Go.RowKit
open BigFrame
open Ar Rg
open Pk (be num be_length u8s u8s_length)
open Nd (S tkNum tkBytes bs)
open Di (Off)
open It (Ch infoC)
/-- changes of the call's own, in blocks from bb on -/
def CO (bb : Nat) (w : World) (v : Value) (D : List Ch) : Prop := w.ownsRow bb 41 3 v D.length (D.flatMap Sc.enc)
section
variable {w w' : World} {bb g c : Nat} {v : Value} {D : List Ch}
theorem CO.nil (bb : Nat) (w : World) : CO bb w (.slice none 0 0) [] := World.ownsRow_nil _ _ _ _
theorem CO.off {X : Nat → Prop} (h : CO bb w v D) (ho : Off X w w') (hX : ∀ j, X j → j < bb) : CO bb w' v D := by
  refine ⟨h.1, ?_⟩
  rcases h.2 with h0 | ⟨q, cap, cur, rfl, hb, hq, rest⟩
  · exact .inl h0
  · have hlt : q < w.heap.size := (Array.getElem?_eq_some_iff.1 hq).1
    exact .inr ⟨q, cap, cur, rfl, hb, (ho.block q hlt fun hx => by have := hX q hx; omega).trans hq, rest⟩
theorem CO.go (h : CO bb w v D) (hb : Below w.heap.size w w') : CO bb w' v D := h.off (Off.of_below (X := fun _ => False) hb) (fun _ h => h.elim)
theorem CO.ls (h : CO bb w v D) : ∃ A c, v = .slice A D.length c ∧ D.length ≤ c ∧ c ≤ maxLen ∧ Ls Sc.enc 3 w w.heap.size A D := by
  rcases h.2 with ⟨rfl, h0⟩ | ⟨q, cap, cur, rfl, hb, hq, hn, hc, hcs, ht⟩
  · have : D = [] := List.eq_nil_of_length_eq_zero h0
    subst this
    exact ⟨_, _, rfl, Nat.le_refl _, Nat.zero_le _, Ls.nil⟩
  · refine ⟨_, _, rfl, hn, hc, fun i x hx => ⟨q, 0, rfl, (Array.getElem?_eq_some_iff.1 hq).1, fun j u hu => ?_⟩⟩
    rw [Nat.zero_add]
    have := h.cells (g := q) rfl _ _ (flat_get Sc.enc_len hx hu)
    rw [Ar.add_plain, Nat.zero_add] at this
    exact this
theorem CO.own (h : CO bb w v D) (k : Nat) (hk : v.ownBlock = some k) : bb ≤ k ∧ k < w.heap.size := h.lt k hk
theorem op_catO {o : Oper} {a : Act} {K : Act → World → Prop} {Q : Exit → Act → World → Prop} (h : CO bb w v D) (hb : bb ≤ w.heap.size) (y : Ch) (q c : Nat) (hrow : w.heap[q]? = some (.cells (Sc.enc y).toArray 41 (0, 0))) (hlen : D.length + 1 ≤ 1099511627776)
    (s x : Operand) (ho : o.op = .call { callee := .builtin .append, args := #[s, x], argTypes := #[24, 24] }) (hs : a.eval s = v) (hx : a.eval x = .slice (some ⟨q, 0, none⟩) 1 c)
    (hK : ∀ v' w', CO bb w' v' (D ++ [y]) → w.grownBy w' v.ownBlock → K (a.put o.dst v') w') : Oper.wp Tryz.prog o a w K Q := by
  obtain ⟨i0, hi, hz0, hz1, hz2⟩ := info_parts infoC
  obtain ⟨v', w', hr, h2, h3, _, h5⟩ := run_append_own_at (P := Tryz.prog) w bb 24 o.type 41 i0 _ 3 40 Tryz.underlying24 hi hz0 hz1 hz2 rfl (by decide) v D.length (D.flatMap Sc.enc) h ⟨q, 0, none⟩ 1 c (Sc.enc y) rfl
    (fun j u hu => by
      rw [Ar.add_plain, Nat.zero_add]
      exact (cell_of_row w q j (Sc.enc y).toArray 41 (0, 0) hrow).trans (by rw [List.getElem?_toArray]; exact hu)) (Sc.enc_one y) (by unfold maxLen; omega) (by omega) hb
  have hM' : CO bb w' v' (D ++ [y]) := by
    unfold CO
    have e : (D ++ [y]).flatMap Sc.enc = D.flatMap Sc.enc ++ Sc.enc y := by simp
    rw [List.length_append, e]
    exact h2
  unfold Oper.wp execOp
  simp only [ho, List.map_toArray, List.map_cons, List.map_nil, hs, hx, resolve, invoke, builtin, Sem.run_bind, Sem.run_pure, Result.andThen_ok, hr]
  exact hK _ _ hM' h3
/-- a change in a variable of its own -/
def CR (w : World) (c : Nat) (k : ByteArray) (h : Bool) (v : ByteArray) : Prop := w.heap[c]? = some (.cells #[.string k, .bool h, .string v] 41 (0, 0))
variable {k x : ByteArray} {h : Bool}
theorem CR.lt (H : CR w c k h x) : c < w.heap.size := (Array.getElem?_eq_some_iff.1 H).1
theorem CR.off {X : Nat → Prop} (H : CR w c k h x) (ho : Off X w w') (hX : ¬ X c) : CR w' c k h x := (ho.block c H.lt hX).trans H
theorem CR.c0 (H : CR w c k h x) : w.cell? ⟨c, 0, none⟩ = some (.string k) := cell_of_row _ _ 0 _ _ _ H
theorem CR.c1 (H : CR w c k h x) : w.cell? ⟨c, 1, none⟩ = some (.bool h) := cell_of_row _ _ 1 _ _ _ H
theorem CR.c2 (H : CR w c k h x) : w.cell? ⟨c, 2, none⟩ = some (.string x) := cell_of_row _ _ 2 _ _ _ H
theorem CR.fz (H : CR w c k h x) (i : Nat) : w.frozen? ⟨c, i, none⟩ = false := Lib.frozen_of_heap H i
theorem CR.set0 (H : CR w c k h x) (y : ByteArray) : CR (w.setCell ⟨c, 0, none⟩ (.string y)) c y h x := by unfold CR at H ⊢; simp [World.setCell, H, Array.getElem?_modify]
theorem CR.set1 (H : CR w c k h x) (q : Bool) : CR (w.setCell ⟨c, 1, none⟩ (.bool q)) c k q x := by unfold CR at H ⊢; simp [World.setCell, H, Array.getElem?_modify]
theorem CR.set2 (H : CR w c k h x) (y : ByteArray) : CR (w.setCell ⟨c, 2, none⟩ (.string y)) c k h y := by unfold CR at H ⊢; simp [World.setCell, H, Array.getElem?_modify]
theorem CR.new (w : World) : CR (w.alloc (.cells #[.string ⟨#[]⟩, .bool false, .string ⟨#[]⟩] 41)) w.heap.size ⟨#[]⟩ false ⟨#[]⟩ := heap_alloc_new w _
theorem CR.row (H : CR w c k h x) : w.heap[c]? = some (.cells (Sc.enc (⟨k, h, x⟩ : Ch)).toArray 41 (0, 0)) := H
/-- what stands in blocks that came up since is nobody's else -/
theorem Off.since {X : Nat → Prop} {w0 w1 : World} {c : Nat} (ho : Off X w w0) (hc : w.heap.size ≤ c) (h : Off (fun j => j = c) w0 w1) : Off X w w1 := ⟨h.os.trans ho.os, h.tape.trans ho.tape, h.output.trans ho.output, Nat.le_trans ho.size h.size, fun j hj hx => (h.block j (Nat.lt_of_lt_of_le hj ho.size) (by omega)).trans (ho.block j hj hx)⟩
theorem off_alloc (w : World) (o : Obj) (X : Nat → Prop) : Off X w (w.alloc o) := Off.of_below ((Below.refl _ _).alloc (Nat.le_refl _) _)
end
theorem CO.offN {X : Nat → Prop} {w w' : World} {bb : Nat} {v : Value} {D : List Ch} (h : CO bb w v D) (ho : Off X w w') (hX : ∀ j, X j → j < bb ∨ v.ownBlock ≠ some j) : CO bb w' v D := by
  refine ⟨h.1, ?_⟩
  rcases h.2 with h0 | ⟨q, cap, cur, rfl, hb, hq, rest⟩
  · exact .inl h0
  · have hlt : q < w.heap.size := (Array.getElem?_eq_some_iff.1 hq).1
    refine .inr ⟨q, cap, cur, rfl, hb, (ho.block q hlt fun hx => ?_).trans hq, rest⟩
    rcases hX q hx with h1 | h1
    · omega
    · exact h1 rfl
/-- where the taking of a change stands -/
structure Cy (w0 : World) (B g c : Nat) (v : Value) (D : List Ch) (W : World) (s : S) (k : ByteArray) (h : Bool) (x : ByteArray) : Prop where
  t : Ta W g s
  r : CR W c k h x
  o : Off (fun j => j = g) w0 W
  co : CO B W v D
  sz : c < W.heap.size
  b0 : w0.heap.size = B
  gB : g < B
  Bc : B ≤ c
  ne : v.ownBlock ≠ some c
section
variable {w0 W W' : World} {B g c : Nat} {v : Value} {D : List Ch} {s s' : S} {k x : ByteArray} {h : Bool}
theorem Cy.gc (H : Cy w0 B g c v D W s k h x) : ¬ c = g := by have := H.gB; have := H.Bc; omega
theorem Cy.call (H : Cy w0 B g c v D W s k h x) (ht : Ta W' g s') (ho : Off (fun j => j = g) W W') : Cy w0 B g c v D W' s' k h x :=
  ⟨ht, H.r.off ho H.gc, H.o.trans ho, H.co.off ho (fun j hj => by rw [hj]; exact H.gB), Nat.lt_of_lt_of_le H.sz ho.size, H.b0, H.gB, H.Bc, H.ne⟩
theorem Cy.set (H : Cy w0 B g c v D W s k h x) (i : Nat) (u : Value) {k' x' : ByteArray} {h' : Bool} (hr : CR (W.setCell ⟨c, i, none⟩ u) c k' h' x') : Cy w0 B g c v D (W.setCell ⟨c, i, none⟩ u) s k' h' x' :=
  ⟨H.t.off (off_set W c i u) (fun e => H.gc e.symm), hr, Off.since H.o (by rw [H.b0]; exact H.Bc) (off_set W c i u), H.co.offN (off_set W c i u) (fun j hj => .inr (by rw [hj]; exact H.ne)), by simpa [World.setCell] using H.sz, H.b0, H.gB, H.Bc, H.ne⟩
theorem Cy.new {w : World} (hco : CO B w v D) (hta : Ta w g s) (ho : Off (fun j => j = g) w0 w) (hb : w0.heap.size = B) (hg : g < B) :
    Cy w0 B g w.heap.size v D (w.alloc (.cells #[.string ⟨#[]⟩, .bool false, .string ⟨#[]⟩] 41)) s ⟨#[]⟩ false ⟨#[]⟩ :=
  have hbel : Below w.heap.size w (w.alloc (.cells #[.string ⟨#[]⟩, .bool false, .string ⟨#[]⟩] 41)) := (Below.refl _ _).alloc (Nat.le_refl _) _
  ⟨hta.below hbel, CR.new w, ho.trans (off_alloc w _ _), hco.go hbel, (CR.new w).lt, hb, hg, by rw [← hb]; exact ho.size, fun e => absurd (hco.own _ e).2 (Nat.lt_irrefl _)⟩
end
theorem Off.grew {X : Nat → Prop} {w0 w w' : World} {row : Option Nat} (ho : Off X w0 w) (hG : w.grownBy w' row) (hr : ∀ k, row = some k → w0.heap.size ≤ k) : Off X w0 w' :=
  ⟨hG.os.trans ho.os, hG.tape.trans ho.tape, hG.output.trans ho.output, Nat.le_trans ho.size hG.size, fun j hj hx => (hG.block j (Nat.lt_of_lt_of_le hj ho.size) (fun e => by have := hr j e.symm; omega)).trans (ho.block j hj hx)⟩
theorem size_set (w : World) (a : Addr) (u : Value) : (w.setCell a u).heap.size = w.heap.size := by simp [World.setCell]
/-- what comes up when a change is put behind the others -/
theorem Cy.cat {w0 W w' : World} {B g c : Nat} {v : Value} {D : List Ch} {s : S} {k x : ByteArray} {h : Bool} (H : Cy w0 B g c v D W s k h x) (o : Obj) (hG : (W.alloc o).grownBy w' v.ownBlock) : Ta w' g s ∧ Off (fun j => j = g) w0 w' := by
  have hb := (Below.refl W.heap.size W).alloc (Nat.le_refl _) o
  have ht := H.t.below hb
  have hown : ∀ k, v.ownBlock = some k → B ≤ k := fun k hk => (H.co.own k hk).1
  refine ⟨(hG.block g ht.lt (fun e => ?_)).trans ht, Off.grew (H.o.trans (Off.of_below hb)) hG (fun k hk => by rw [H.b0]; exact hown k hk)⟩
  have := hown g e.symm
  have := H.gB
  omega
/-- a change that is taken takes bytes -/
theorem tkC_less {s : S} (h : (tkC s).2.2 = false) : s.2 = false ∧ (tkC s).2.1.length + 1 ≤ s.1.length := by
  have h2 : s.2 = false := by
    cases hs : s.2 with
    | false => rfl
    | true => have := C_good.stay s hs; rw [show (cC.tk s).2.2 = false from h] at this; cases this
  refine ⟨h2, ?_⟩
  obtain ⟨l, b⟩ := s
  obtain rfl : b = false := h2
  obtain ⟨_, h4⟩ := C_good.fwd l h
  have h4 : l = wrC (tkC (l, false)).1 ++ (tkC (l, false)).2.1 := h4
  have h5 : 1 ≤ (wrC (tkC (l, false)).1).length := by
    unfold wrC
    split
    · rw [List.length_append, be_length]; omega
    · rw [List.length_append, be_length]; omega
  have h6 := congrArg List.length h4
  rw [List.length_append] at h6
  show _ ≤ l.length
  omega
end Go.Proofs.YtjkmfonngbendaaGreatDoor.Se
/- A taker of package stream: as many changes as are told. Written by mk_sed.py. -/
namespace Go.Proofs.YtjkmfonngbendaaGreatDoor.Se
set_option linter.unusedVariables false
set_option linter.unusedSimpArgs false
set_option maxRecDepth 100000
open Go.ChangeShapes Go.WideShapes Go.ChangeAt Go.RowKit
open BigFrame
open Ar Rg
open Pk (be num be_length u8s u8s_length)
open Nd (S tkNum tkBytes bs)
open Di (Off)
open It (Ch infoC)
theorem number1 {w : World} {g : Nat} {s : S} (h : Ta w g s) (hs : s.1.length ≤ maxLen) : Calls Tryz.prog 151 #[.pointer (some ⟨g, 0, none⟩), .int .i64 1] w fun e w' => e = .returned (.int .u64 ((tkNum 1 s).1 : Nat)) ∧ Ta w' g (tkNum 1 s).2 ∧ Off (fun j => j = g) w w' := number_ta 1 (by decide) (by decide) h hs
theorem number4 {w : World} {g : Nat} {s : S} (h : Ta w g s) (hs : s.1.length ≤ maxLen) : Calls Tryz.prog 151 #[.pointer (some ⟨g, 0, none⟩), .int .i64 4] w fun e w' => e = .returned (.int .u64 ((tkNum 4 s).1 : Nat)) ∧ Ta w' g (tkNum 4 s).2 ∧ Off (fun j => j = g) w w' := number_ta 4 (by decide) (by decide) h hs
theorem num_lt4 (s : S) : (tkNum 4 s).1 < 4294967296 := by
  unfold tkNum
  split
  · have h := Pk.num_lt (s.1.take 4)
    have hl : (s.1.take 4).length ≤ 4 := by rw [List.length_take]; omega
    have hp := Nat.pow_le_pow_right (show 256 > 0 by omega) hl
    have e : (256 ^ 4 : Nat) = 4294967296 := by decide
    dsimp only
    omega
  · decide
/-- the changes that are taken, and where the taker stands then -/
def chsS (s : S) : List Ch × S := tkCs (tkNum 4 s).1 (tkNum 4 s).2
set_option maxHeartbeats 8000000 in
theorem changes_ta {w : World} {g : Nat} {s0 : S} (h : Ta w g s0) (hs : s0.1.length ≤ 1099511627775) :
    Calls Tryz.prog 106 #[.pointer (some ⟨g, 0, none⟩)] w fun e w' => ∃ v, e = .returned v ∧ CO w.heap.size w' v (chsS s0).1 ∧ Ta w' g (chsS s0).2 ∧ Off (fun j => j = g) w w' := by
  have HT := Lib.hid h
  have HN4 := Lib.hid (number4 h (by unfold maxLen; omega))
  have HGW := Lib.hid h.lt
  obtain ⟨n, hn⟩ : ∃ n, (tkNum 4 s0).1 = n := ⟨_, rfl⟩
  have hn9 : n < 4294967296 := by rw [← hn]; exact num_lt4 s0
  have hs1 : (tkNum 4 s0).2.1.length ≤ 1099511627775 := Nat.le_trans (num_le 4 s0) hs
  obtain ⟨s1, hs1e⟩ : ∃ s, (tkNum 4 s0).2 = s := ⟨_, rfl⟩
  have HCH := Lib.hid (show chsS s0 = tkCs n s1 by unfold chsS; rw [hn, hs1e])
  rw [hn, hs1e] at HN4
  rw [hs1e] at hs1
  have HS1 := Lib.hid hs1
  obtain ⟨B, hB⟩ : ∃ B, w.heap.size = B := ⟨_, rfl⟩
  have HB := Lib.hid hB
  clear h hs hn hs1e hs1 HT
  go_enter Tryz.func106, Tryz.ntmps106
  go_wp2_with fail
  go_step3
  go_wp2_with fail
  go_step3
  go_wp2_with fail
  (with_reducible refine HN4.out.mono ?_)
  rintro e w1 ⟨rfl, ht1, ho1⟩
  have T1 := Lib.hid ht1
  have O1 := Lib.hid ho1
  clear ht1 ho1 HN4
  go_wp2_with fail
  go_loopw [3, 7] (fun v u wr => ∃ (i : Nat) (D : List Ch) (s : S), i ≤ n ∧ u = .int .u64 i ∧ Hid (CO B wr v D ∧ Ta wr g s ∧ Off (fun j => j = g) w wr ∧ tkCs n s1 = (D ++ (tkCs (n - i) s).1, (tkCs (n - i) s).2) ∧ D.length + s.1.length ≤ 1099511627775)) (fun _ u _ => n - (intOf u).toNat)
  case atStart => exact ⟨0, [], s1, Nat.zero_le _, by go_num, Lib.hid ⟨CO.nil _ _, T1.out, O1.out, rfl, by simpa using HS1.out⟩⟩
  case round =>
    clear T1 O1
    obtain ⟨wo, rfl⟩ : ∃ wo : World, wo = wr := ⟨_, rfl⟩
    obtain ⟨i, D, s, hi, rfl, hrel⟩ := hrel
    obtain ⟨hco, hta, hof, hcs, hle⟩ := hrel.out
    have HCY := Lib.hid (Cy.new hco hta hof hB (by rw [← hB]; exact HGW.out))
    have HCO := Lib.hid hco
    have HTA := Lib.hid hta
    have HOF := Lib.hid hof
    have HCS := Lib.hid hcs
    have HLE := Lib.hid hle
    clear hrel hco hta hof hcs hle hB
    by_cases hlt : i < n
    · have HST := Lib.hid (show tkCs (n - i) s = if (tkC s).2.2 = true then ([], (tkC s).2) else ((tkC s).1 :: (tkCs (n - (i + 1)) (tkC s).2).1, (tkCs (n - (i + 1)) (tkC s).2).2) by rw [show n - i = (n - (i + 1)) + 1 by omega, tkCs])
      have HLS := Lib.hid (@tkC_less s)
      have HCT := Lib.hid (show tkC s = if (tkNum 1 s).1 = 1 then (⟨bs (tkT (tkNum 1 s).2).1, true, bs (tkT (tkT (tkNum 1 s).2).2).1⟩, (tkT (tkT (tkNum 1 s).2).2).2) else if (tkNum 1 s).1 = 0 then (⟨bs (tkT (tkNum 1 s).2).1, false, ⟨#[]⟩⟩, (tkT (tkNum 1 s).2).2) else (⟨⟨#[]⟩, false, ⟨#[]⟩⟩, ((tkNum 1 s).2.1, true)) from rfl)
      have hsz := HLE.out
      have HN1 := Lib.hid (number1 HCY.out.t (by unfold maxLen; omega))
      have hl1 := num_le 1 s
      obtain ⟨k, hk⟩ : ∃ k, (tkNum 1 s).1 = k := ⟨_, rfl⟩
      obtain ⟨sa, hsa⟩ : ∃ sa, (tkNum 1 s).2 = sa := ⟨_, rfl⟩
      rw [hk, hsa] at HCT HN1
      rw [hsa] at hl1
      have HLA := Lib.hid (show sa.1.length ≤ 1099511627775 by omega)
      obtain ⟨c, hc⟩ : ∃ c, wo.heap.size = c := ⟨_, rfl⟩
      rw [hc] at HCY
      clear hk hsa hl1 hsz HTA HCO HOF
      go_wp2_with fail
      generalize wo.alloc (.cells #[.string ⟨#[]⟩, .bool false, .string ⟨#[]⟩] 41) = W0 at *
      (with_reducible refine HN1.out.mono ?_)
      rintro e w2 ⟨rfl, ht2, ho2⟩
      have Y2 := Lib.hid (HCY.out.call ht2 ho2)
      clear ht2 ho2 HN1 HCY hc
      by_cases k1 : k = 1
      · subst k1
        have HC1 := Lib.hid (show tkC s = (⟨bs (tkT sa).1, true, bs (tkT (tkT sa).2).1⟩, (tkT (tkT sa).2).2) by rw [HCT.out, if_pos rfl])
        clear HCT
        have hl2 := txt_le sa
        have hl3 := HLA.out
        obtain ⟨⟨kb, sb⟩, hsb⟩ : ∃ q, tkT sa = q := ⟨_, rfl⟩
        obtain ⟨⟨vb, sc⟩, hsc⟩ : ∃ q, tkT sb = q := ⟨_, rfl⟩
        rw [hsb] at HC1 hl2
        dsimp only at HC1 hl2
        rw [hsc] at HC1
        have z1 := Y2.out.r.c1
        have f1 := Y2.out.r.fz 1
        have Y3 := Lib.hid (Y2.out.set 1 (.bool true) (Y2.out.r.set1 true))
        have HX3 := Lib.hid (text_ta Y3.out.t (by unfold maxLen; omega))
        rw [hsb] at HX3
        clear Y2
        go_wp2_with fail
        generalize w2.setCell ⟨c, 1, none⟩ (.bool true) = w3 at *
        clear z1 f1
        (with_reducible refine HX3.out.mono ?_)
        rintro e w4 ⟨rfl, ht, ho⟩
        have Y4 := Lib.hid (Y3.out.call ht ho)
        have z0 := Y4.out.r.c0
        have f0 := Y4.out.r.fz 0
        have Y5 := Lib.hid (Y4.out.set 0 (.string (bs kb)) (Y4.out.r.set0 (bs kb)))
        have z1 := Y5.out.r.c1
        have HX5 := Lib.hid (text_ta Y5.out.t (by unfold maxLen; omega))
        rw [hsc] at HX5
        clear ht ho Y3 Y4 HX3
        go_wp2_with fail
        generalize w4.setCell ⟨c, 0, none⟩ (.string (bs kb)) = w5 at *
        clear z0 f0 z1
        (with_reducible refine HX5.out.mono ?_)
        rintro e w6 ⟨rfl, ht, ho⟩
        have Y6 := Lib.hid (Y5.out.call ht ho)
        have z2 := Y6.out.r.c2
        have f2 := Y6.out.r.fz 2
        have Y7 := Lib.hid (Y6.out.set 2 (.string (bs vb)) (Y6.out.r.set2 (bs vb)))
        have z3 := Y7.out.t.c1
        have z4 := Y7.out.r.c0
        have z5 := Y7.out.r.c1
        have z6 := Y7.out.r.c2
        clear ht ho Y5 Y6 HX5 hl2 hl3 hsb hsc
        obtain ⟨sr, sw⟩ := sc
        dsimp only at HC1 z3
        cases sw with
        | true =>
          have HZ := Lib.hid (show tkCs n s1 = (D, (sr, true)) by rw [HCS.out, HST.out, HC1.out, if_pos rfl]; simp)
          go_wp2
          rw [Exit.noGoto_ret]
          go_ret
          exact ⟨_, rfl, by rw [HCH.out, HZ.out, HB.out]; exact Y7.out.co, by rw [HCH.out, HZ.out]; exact Y7.out.t, Y7.out.o⟩
        | false =>
          have HZ := Lib.hid (show tkCs n s1 = ((D ++ [(⟨bs kb, true, bs vb⟩ : Ch)]) ++ (tkCs (n - (i + 1)) (sr, false)).1, (tkCs (n - (i + 1)) (sr, false)).2) by rw [HCS.out, HST.out, HC1.out, if_neg (show ¬ false = true from Bool.false_ne_true)]; simp)
          have HLZ := Lib.hid (show sr.length + 1 ≤ s.1.length by have := (HLS.out (by rw [HC1.out])).2; rw [HC1.out] at this; exact this)
          have HDL := Lib.hid (show D.length + 1 ≤ 1099511627776 by have := HLE.out; omega)
          have HBS := Lib.hid (show B ≤ (w6.setCell ⟨c, 2, none⟩ (.string (bs vb))).heap.size by have := Y7.out.sz; have := Y7.out.Bc; omega)
          have HNR := Lib.hid (show ((w6.setCell ⟨c, 2, none⟩ (.string (bs vb))).alloc (.cells (Sc.enc (⟨bs kb, true, bs vb⟩ : Ch)).toArray 41)).heap[w6.heap.size]? = some (.cells (Sc.enc (⟨bs kb, true, bs vb⟩ : Ch)).toArray 41 (0, 0)) by have h9 := heap_alloc_new (w6.setCell ⟨c, 2, none⟩ (.string (bs vb))) (.cells (Sc.enc (⟨bs kb, true, bs vb⟩ : Ch)).toArray 41); rwa [size_set] at h9)
          have HCA := Lib.hid (Y7.out.co.go ((Below.refl _ _).alloc (Nat.le_refl _) (.cells (Sc.enc (⟨bs kb, true, bs vb⟩ : Ch)).toArray 41)))
          have HBA := Lib.hid (Nat.le_trans HBS.out ((Below.refl _ (w6.setCell ⟨c, 2, none⟩ (.string (bs vb)))).alloc (Nat.le_refl _) (.cells (Sc.enc (⟨bs kb, true, bs vb⟩ : Ch)).toArray 41)).size)
          go_wp2_with (at_builtin; refine wpList_plain rfl fun K hK => op_catO HCA.out HBA.out (⟨bs kb, true, bs vb⟩ : Ch) w6.heap.size 1 HNR.out HDL.out _ _ rfl rfl rfl (fun v8 w8 hM hG => hK _ _ ?_); have HM8 := Lib.hid hM; have HG8 := Lib.hid (Y7.out.cat _ hG); clear hM hG hK K)
          exact ⟨⟨i + 1, D ++ [(⟨bs kb, true, bs vb⟩ : Ch)], (sr, false), by omega, by go_num, Lib.hid ⟨HM8.out, HG8.out.1, HG8.out.2, HZ.out, by have := HLZ.out; have := HLE.out; rw [List.length_append]; show _ + [(⟨bs kb, true, bs vb⟩ : Ch)].length + sr.length ≤ _; simp only [List.length_cons, List.length_nil]; omega⟩⟩, by simp [intOf] <;> omega⟩
      · by_cases k0 : k = 0
        · subst k0
          have HC1 := Lib.hid (show tkC s = (⟨bs (tkT sa).1, false, ⟨#[]⟩⟩, (tkT sa).2) by rw [HCT.out, if_neg (show ¬ (0 : Nat) = 1 by decide), if_pos rfl])
          clear HCT k1
          have hl3 := HLA.out
          obtain ⟨⟨kb, sb⟩, hsb⟩ : ∃ q, tkT sa = q := ⟨_, rfl⟩
          rw [hsb] at HC1
          dsimp only at HC1
          have HX3 := Lib.hid (text_ta Y2.out.t (by unfold maxLen; omega))
          rw [hsb] at HX3
          go_wp2_with fail
          (with_reducible refine HX3.out.mono ?_)
          rintro e w4 ⟨rfl, ht, ho⟩
          have Y4 := Lib.hid (Y2.out.call ht ho)
          have z0 := Y4.out.r.c0
          have f0 := Y4.out.r.fz 0
          have Y7 := Lib.hid (Y4.out.set 0 (.string (bs kb)) (Y4.out.r.set0 (bs kb)))
          have z3 := Y7.out.t.c1
          have z4 := Y7.out.r.c0
          have z5 := Y7.out.r.c1
          have z6 := Y7.out.r.c2
          clear ht ho Y2 Y4 HX3 hl3 hsb
          obtain ⟨sr, sw⟩ := sb
          dsimp only at HC1 z3
          cases sw with
          | true =>
            have HZ := Lib.hid (show tkCs n s1 = (D, (sr, true)) by rw [HCS.out, HST.out, HC1.out, if_pos rfl]; simp)
            go_wp2
            rw [Exit.noGoto_ret]
            go_ret
            exact ⟨_, rfl, by rw [HCH.out, HZ.out, HB.out]; exact Y7.out.co, by rw [HCH.out, HZ.out]; exact Y7.out.t, Y7.out.o⟩
          | false =>
            have HZ := Lib.hid (show tkCs n s1 = ((D ++ [(⟨bs kb, false, ⟨#[]⟩⟩ : Ch)]) ++ (tkCs (n - (i + 1)) (sr, false)).1, (tkCs (n - (i + 1)) (sr, false)).2) by rw [HCS.out, HST.out, HC1.out, if_neg (show ¬ false = true from Bool.false_ne_true)]; simp)
            have HLZ := Lib.hid (show sr.length + 1 ≤ s.1.length by have := (HLS.out (by rw [HC1.out])).2; rw [HC1.out] at this; exact this)
            have HDL := Lib.hid (show D.length + 1 ≤ 1099511627776 by have := HLE.out; omega)
            have HBS := Lib.hid (show B ≤ (w4.setCell ⟨c, 0, none⟩ (.string (bs kb))).heap.size by have := Y7.out.sz; have := Y7.out.Bc; omega)
            have HNR := Lib.hid (show ((w4.setCell ⟨c, 0, none⟩ (.string (bs kb))).alloc (.cells (Sc.enc (⟨bs kb, false, ⟨#[]⟩⟩ : Ch)).toArray 41)).heap[w4.heap.size]? = some (.cells (Sc.enc (⟨bs kb, false, ⟨#[]⟩⟩ : Ch)).toArray 41 (0, 0)) by have h9 := heap_alloc_new (w4.setCell ⟨c, 0, none⟩ (.string (bs kb))) (.cells (Sc.enc (⟨bs kb, false, ⟨#[]⟩⟩ : Ch)).toArray 41); rwa [size_set] at h9)
            have HCA := Lib.hid (Y7.out.co.go ((Below.refl _ _).alloc (Nat.le_refl _) (.cells (Sc.enc (⟨bs kb, false, ⟨#[]⟩⟩ : Ch)).toArray 41)))
            have HBA := Lib.hid (Nat.le_trans HBS.out ((Below.refl _ (w4.setCell ⟨c, 0, none⟩ (.string (bs kb)))).alloc (Nat.le_refl _) (.cells (Sc.enc (⟨bs kb, false, ⟨#[]⟩⟩ : Ch)).toArray 41)).size)
            go_wp2_with (at_builtin; refine wpList_plain rfl fun K hK => op_catO HCA.out HBA.out (⟨bs kb, false, ⟨#[]⟩⟩ : Ch) w4.heap.size 1 HNR.out HDL.out _ _ rfl rfl rfl (fun v8 w8 hM hG => hK _ _ ?_); have HM8 := Lib.hid hM; have HG8 := Lib.hid (Y7.out.cat _ hG); clear hM hG hK K)
            exact ⟨⟨i + 1, D ++ [(⟨bs kb, false, ⟨#[]⟩⟩ : Ch)], (sr, false), by omega, by go_num, Lib.hid ⟨HM8.out, HG8.out.1, HG8.out.2, HZ.out, by have := HLZ.out; have := HLE.out; rw [List.length_append]; show _ + [(⟨bs kb, false, ⟨#[]⟩⟩ : Ch)].length + sr.length ≤ _; simp only [List.length_cons, List.length_nil]; omega⟩⟩, by simp [intOf] <;> omega⟩
        · have HC1 := Lib.hid (show tkC s = (⟨⟨#[]⟩, false, ⟨#[]⟩⟩, (sa.1, true)) by rw [HCT.out, if_neg k1, if_neg k0])
          clear HCT
          have d1 : ((k : Int) == 1) = false := by rw [beq_eq_false_iff_ne]; omega
          have d0 : ((k : Int) == 0) = false := by rw [beq_eq_false_iff_ne]; omega
          have HZ := Lib.hid (show tkCs n s1 = (D, (sa.1, true)) by rw [HCS.out, HST.out, HC1.out, if_pos rfl]; simp)
          have z1 := Y2.out.t.c1
          have f1 := Y2.out.t.fz 1
          clear k1 k0
          go_wp2
          rw [Exit.noGoto_ret]
          go_ret
          exact ⟨_, rfl, by rw [HCH.out, HZ.out, HB.out]; exact Y2.out.co.off (off_set w2 g 1 _) (fun j hj => by rw [hj]; exact Y2.out.gB), by rw [HCH.out, HZ.out]; exact Y2.out.t.set1 true, Y2.out.o.trans (off_set w2 g 1 _)⟩
    · obtain rfl : i = n := by omega
      have HZ := Lib.hid (show tkCs i s1 = (D, s) by rw [HCS.out, Nat.sub_self]; simp [tkCs])
      go_wp2
      rw [Exit.noGoto_ret]
      go_ret
      exact ⟨_, rfl, by rw [HCH.out, HZ.out, HB.out]; exact HCO.out, by rw [HCH.out, HZ.out]; exact HTA.out, HOF.out⟩
end Go.Proofs.YtjkmfonngbendaaGreatDoor.Se
/- Package stream: are changes right ones? -/
namespace Go.Proofs.YtjkmfonngbendaaGreatDoor.Se
set_option linter.unusedVariables false
set_option linter.unusedSimpArgs false
set_option maxRecDepth 100000
open Go.ChangeShapes Go.WideShapes Go.ChangeAt Go.RowKit
open BigFrame
open Ar Rg
open It (Itm Ch rt itm MkI catI check_any errF)
theorem map_snoc {D : List Ch} {i : Nat} {x : Ch} (h : D[i]? = some x) : (D.take (i + 1)).map itm = (D.take i).map itm ++ [itm x] := by
  rw [List.take_add_one, h, List.map_append]; rfl
/-- a new list of one, behind another new block -/
theorem ls_new2 {α : Type} {en : α → List Value} {k : Nat} (w : World) (x : α) (e : TypeId) {N : Nat} (hN : w.heap.size = N) : Ls en k (w.alloc (.cells (en x).toArray e)) (N + 1) (some ⟨N, 0, none⟩) [x] := by
  subst hN
  exact Ls.new w x e _ (Nat.lt_succ_self _)
set_option maxHeartbeats 4000000 in
theorem rightChanges_any (D : List Ch) (A : Option Addr) (n cap B : Nat) (hn : n = D.length) (hm : n ≤ 1099511627776) (w : World) (hB : B ≤ w.heap.size) (hD : Ls Sc.enc 3 w B A D) :
    Calls Tryz.prog 107 #[.slice A n cap] w fun e w' => e = .returned (.bool (rt (D.map itm))) ∧ Below w.heap.size w w' := by
  have HN := Lib.hid hn
  have HL := Lib.hid (hD.more hB)
  clear hn hD
  go_enter Tryz.func107, Tryz.ntmps107
  go_wp2_with fail
  go_loopw [3, 8] (fun v u wr => ∃ i : Nat, i ≤ n ∧ u = .int .i64 i ∧ Hid (MkI w wr v ((D.take i).map itm))) (fun _ u _ => n - (intOf u).toNat)
  case atStart => exact ⟨0, Nat.zero_le _, by go_num, Lib.hid (Mk.nil (Below.refl _ _))⟩
  case round =>
    obtain ⟨wo, rfl⟩ : ∃ wo : World, wo = wr := ⟨_, rfl⟩
    obtain ⟨i, hi, rfl, hm1⟩ := hrel
    by_cases hlt : i < n
    · obtain ⟨x, hx⟩ : ∃ x, D[i]? = some x := ⟨_, List.getElem?_eq_getElem (by rw [← HN.out]; exact hlt)⟩
      obtain ⟨b, o, hAe, hb, hr⟩ := (HL.out.below hm1.out.2) i x hx
      have hbs : b < wo.heap.size := Nat.lt_of_lt_of_le hb hm1.out.2.size
      have hc0 : wo.cell? ⟨b, o + i * 3, none⟩ = some (.string x.k) := hr 0 _ rfl
      have hc1 : wo.cell? ⟨b, o + i * 3 + 1, none⟩ = some (.bool x.h) := hr 1 _ rfl
      have hc2 : wo.cell? ⟨b, o + i * 3 + 2, none⟩ = some (.string x.v) := hr 2 _ rfl
      subst hAe
      have HMS := Lib.hid (hm1.out.alloc (.cells #[.string x.k, .bool x.h, .string x.v] 41))
      have HSN := Lib.hid (show (D.take (i + 1)).map itm = (D.take i).map itm ++ [itm x] from map_snoc hx)
      have HDL := Lib.hid (show ((D.take i).map itm).length + 1 ≤ 4398046511104 by rw [List.length_map, List.length_take]; omega)
      clear hr hx hm1
      obtain ⟨xk, xh, xv⟩ := x
      simp only at hc0 hc1 hc2 HMS HSN
      go_wp2_with (at_builtin; refine catI (HMS.out.alloc _) [(⟨xk, xv⟩ : Itm)] (some ⟨wo.heap.size + 1, 0, none⟩) 1 1 rfl (ls_new2 _ (⟨xk, xv⟩ : Itm) _ (by simp)) HDL.out rfl _ _ rfl rfl rfl ?_; intro v5 w5 hM5 hG5; have HM5 := Lib.hid hM5; clear hM5 hG5)
      exact ⟨⟨i + 1, by omega, by go_num, Lib.hid (by rw [HSN.out]; exact HM5.out)⟩, by simp [intOf] <;> omega⟩
    · obtain rfl : i = n := by omega
      have HM := Lib.hid (show MkI w wo u3 (D.map itm) by have := hm1.out; rwa [HN.out, List.take_length] at this)
      obtain ⟨A9, c9, hv, _, _, hl9⟩ := HM.out.ls It.enc_len
      have HLL := Lib.hid (show i = (D.map itm).length by rw [List.length_map]; exact HN.out)
      rw [← HLL.out] at hv
      subst hv
      have HCK := Lib.hid (check_any (D.map itm) A9 i c9 wo.heap.size HLL.out (by omega) wo (Nat.le_refl _) hl9)
      have HB := Lib.hid HM.out.2
      clear hm1 HM hl9
      cases hq : rt (D.map itm) with
      | true =>
        rw [hq] at HCK
        unfold errF at HCK
        go_wp2_with (go_at_call 60; refine HCK.out.mono ?_; rintro e w1 ⟨rfl, hb1⟩)
        go_ret
        exact ⟨by rw [hq]; rfl, HB.out.trans (hb1.mono HB.out.size)⟩
      | false =>
        rw [hq] at HCK
        unfold errF at HCK
        go_wp2_with (go_at_call 60; refine HCK.out.mono ?_; rintro e w1 ⟨rfl, hb1⟩)
        go_ret
        exact ⟨by rw [hq]; rfl, HB.out.trans (hb1.mono HB.out.size)⟩
end Go.Proofs.YtjkmfonngbendaaGreatDoor.Se
/- Package stream: the bytes ahead of their sum. -/
namespace Go.Proofs.YtjkmfonngbendaaGreatDoor.Se
set_option linter.unusedVariables false
set_option linter.unusedSimpArgs false
set_option maxRecDepth 100000
open Go.ChangeShapes Go.WideShapes Go.ChangeAt Go.RowKit
open BigFrame
open Ar Rg
open Pk (be num be_length num_lt u8s u8s_length crc psum_any tN tR tE)
open Nd (S tkNum tkBytes bs)
/-- the bytes ahead of the sum; is that theirs -/
def smT (l : List UInt8) : List UInt8 := if l.length < 4 then [] else l.take (l.length - 4)
def smB (l : List UInt8) : Bool := if l.length < 4 then false else decide (num (l.drop (l.length - 4)) = (crc (l.take (l.length - 4))).toNat)
theorem psum_u (x : ByteArray) (hx : x.size ≤ 281474976710656) (w : World) :
    Calls Tryz.prog 32 #[.string x] w fun e w' => e = .returned (.int .u32 ((crc x.data.toList).toNat : Nat)) ∧ Below w.heap.size w w' := psum_any x w hx
theorem ex_take (l : List UInt8) (m : Nat) (h : m ≤ l.length) : (bs l).extract 0 m = bs (l.take m) := by
  apply bs_ext
  rw [ByteArray.data_extract, Array.toList_extract, List.extract_eq_take_drop, List.drop_zero, Nat.sub_zero]
  rfl
set_option maxHeartbeats 4000000 in
theorem summed_any (l : List UInt8) (hl : l.length ≤ 281474976710656) (w : World) :
    Calls Tryz.prog 103 #[.string (bs l)] w fun e w' => e = .returned (.tuple #[.string (bs (smT l)), .bool (smB l)]) ∧ Below w.heap.size w w' := by
  have hz : (bs l).size = l.length := rfl
  by_cases h4 : l.length < 4
  · have e1 : smT l = [] := if_pos h4
    have e2 : smB l = false := if_pos h4
    rw [e1, e2]
    have d1 : decide (((bs l).size : Int) < 4) = true := by rw [decide_eq_true_iff, hz]; omega
    clear e1 e2 hz
    go_enter Tryz.func103, Tryz.ntmps103
    go_wp2
    go_ret2
    exact ⟨rfl, Below.refl _ _⟩
  · obtain ⟨m, hm⟩ : ∃ m, l.length = m + 4 := ⟨l.length - 4, by omega⟩
    have e1 : smT l = l.take m := by unfold smT; rw [if_neg h4, hm, Nat.add_sub_cancel]
    have e2 : smB l = decide (num (l.drop m) = (crc (l.take m)).toNat) := by unfold smB; rw [if_neg h4, hm, Nat.add_sub_cancel]
    rw [e1, e2]
    have hd : (l.drop m).length = 4 := by rw [List.length_drop]; omega
    have ht : (l.take m).length = m := by rw [List.length_take]; omega
    obtain ⟨X, hX⟩ : ∃ X, bs l = X := ⟨_, rfl⟩
    have x1 : X.extract 0 m = bs (l.take m) := by rw [← hX]; exact ex_take l m (by omega)
    have x2 : X.extract m (m + 4) = bs (l.drop m) := by rw [← hX, ← hm]; exact ex_drop l m
    obtain ⟨B, hB⟩ : ∃ B, l.take m = B := ⟨_, rfl⟩
    obtain ⟨E, hE⟩ : ∃ E, l.drop m = E := ⟨_, rfl⟩
    rw [hB] at x1 ht ⊢
    rw [hE] at x2 hd ⊢
    have hXs : X.size = m + 4 := by rw [← hX, hz, hm]
    have HT := Lib.hid (fun w => Pk.take_any (bs E) 4 w (by show E.length ≤ maxLen; rw [hd]; unfold maxLen; decide))
    have n1 := num_is E 4 (by decide) (by decide) false
    have n2 : tkNum 4 (E, false) = (num E, ([], false)) := by
      unfold tkNum
      dsimp only
      rw [if_pos (by omega), List.take_of_length_le (by omega), List.drop_of_length_le (by omega)]
    rw [n2] at n1
    have e4 : ((4 : Nat) : Int) = 4 := rfl
    rw [e4] at n1
    rw [n1.1, n1.2.1] at HT
    have HP := Lib.hid (fun w => psum_u (bs B) (by show B.length ≤ _; omega) w)
    have e5 : (bs B).data.toList = B := rfl
    rw [e5] at HP
    have hq9 : (crc B).toNat < 4294967296 := (crc B).isLt
    have hn9 : num E < 4294967296 := by
      have := num_lt E
      rw [hd] at this
      exact this
    obtain ⟨q, hq⟩ : ∃ q, (crc B).toNat = q := ⟨_, rfl⟩
    obtain ⟨p, hp⟩ : ∃ p, num E = p := ⟨_, rfl⟩
    obtain ⟨z, hz9⟩ : ∃ z, tE (bs E) 4 = z := ⟨_, rfl⟩
    rw [hq] at HP hq9 ⊢
    rw [hp] at HT hn9 ⊢
    rw [hz9] at HT
    dsimp only at HT
    have d1 : decide (((X.size : Nat) : Int) < 4) = false := by rw [decide_eq_false_iff_not, hXs]; omega
    have y1 : (X.size : Int) - 4 = (m : Int) := by omega
    have y2 : (bs B).size = m := ht
    have y3 : IntKind.u32.wrap (p : Int) = (p : Int) := by simp [IntKind.wrap, IntKind.bits, IntKind.signed]; omega
    have y4 : ((p : Int) == (q : Int)) = decide (p = q) := by
      rw [Bool.eq_iff_iff, beq_iff_eq, decide_eq_true_iff]; omega
    have y5 : m ≤ X.size := by omega
    have y6 : X.extract m X.size = bs E := by rw [hXs]; exact x2
    rw [hX]
    have y7 : m ≤ 281474976710656 := by omega
    clear e1 e2 hz h4 hm hd ht hX x2 hB hE hXs n1 n2 e4 e5 hq hp hz9 hl
    go_enter Tryz.func103, Tryz.ntmps103
    go_wp2_with fail
    (with_reducible refine (HT.out _).mono ?_)
    rintro e w1 ⟨rfl, hb1⟩
    have B1 := Lib.hid hb1
    clear hb1 HT
    go_wp2_with fail
    (with_reducible refine (HP.out _).mono ?_)
    rintro e w2 ⟨rfl, hb2⟩
    have B2 := Lib.hid (B1.out.trans (hb2.mono B1.out.size))
    clear hb2 HP B1
    go_wp2
    go_ret2
    exact ⟨rfl, B2.out⟩
end Go.Proofs.YtjkmfonngbendaaGreatDoor.Se
/- A taker of package stream: a mark. -/
namespace Go.Proofs.YtjkmfonngbendaaGreatDoor.Se
set_option linter.unusedVariables false
set_option linter.unusedSimpArgs false
set_option maxRecDepth 100000
open Go.ChangeShapes Go.WideShapes Go.ChangeAt Go.RowKit
open BigFrame
open Ar Rg
open Pk (be num be_length u8s u8s_length)
open Nd (S tkNum tkBytes bs)
open Di (Off)
theorem wpList_copy_str {P : Program} {ops : Array Oper} {rest : List Oper} {o : Oper} {a : Act} {w : World} {Q : Exit → Act → World → Prop}
    (hgd : o.guard = none) (d x : Operand) (dT sT : TypeId) (hop : o.op = Op.call { callee := Callee.builtin Builtin.copy, args := #[d, x], argTypes := #[dT, sT] })
    (elem : TypeId) (hu : P.underlying dT = some (.slice elem)) (hs : (P.info? elem).map (·.size) = some 1) (g dLen dCap : Nat) (hd : a.eval d = .slice (some ⟨g, 0, none⟩) dLen dCap) (s : ByteArray) (hx : a.eval x = .string s)
    (cur : Array Value) (t : TypeId) (hg : w.heap[g]? = some (.cells cur t (0, 0))) (hle : s.size ≤ dLen) (hfit : s.size ≤ cur.size)
    (hK : wpList P ops Q rest (a.put o.dst (goInt s.size)) (w.setRow g (cur.toList.take 0 ++ Lib.byteCells s.data.toList ++ cur.toList.drop (0 + s.size)).toArray)) :
    wpList P ops Q (o :: rest) a w := by
  refine wpList_plain hgd fun K hK' => ?_
  have hrun := Lib.run_copy_row_string (P := P) w dT sT o.type elem g 0 dLen dCap s cur t hu hs hg hle (by omega)
  unfold Oper.wp
  simp [execOp, hop, resolve, invoke, builtin, hd, hx, hrun, Result.andThen]
  exact hK' _ _ (by simpa using hK)
/-- the first bytes of a text that is longer than the cells -/
theorem run_copy_row_long {P : Program} (w : World) (dT sT ty elem : TypeId) (g o dLen dCap : Nat) (s : ByteArray) (cur : Array Value) (t : TypeId)
    (hu : P.underlying dT = some (.slice elem)) (hs : (P.info? elem).map (·.size) = some 1) (hg : w.heap[g]? = some (.cells cur t (0, 0))) (hge : dLen ≤ s.size) (hfit : o + dLen ≤ cur.size) :
    (Builtin.copy_ #[dT, sT] ty #[.slice (some ⟨g, o, none⟩) dLen dCap, .string s]).run P w =
      .ok (goInt dLen) (w.setRow g (cur.toList.take o ++ Lib.byteCells (s.data.toList.take dLen) ++ cur.toList.drop (o + dLen)).toArray) := by
  have hsl : s.data.toList.length = s.size := by rw [Array.length_toList]; rfl
  have hlen : (Lib.byteCells (s.data.toList.take dLen)).length = dLen := by rw [Lib.byteCells_length, List.length_take, hsl]; omega
  have hst := run_storeCells_at P g o t (Lib.byteCells (s.data.toList.take dLen)) 0 cur w hg (by rw [hlen]; simpa using hfit) (Lib.byteCells_one _)
  have hmin : Nat.min s.size dLen = dLen := Nat.min_eq_right hge
  have htk : List.take dLen (List.map (fun b : UInt8 => Value.int IntKind.u8 (b.toNat : Int)) s.data.toList) = Lib.byteCells (s.data.toList.take dLen) := by
    unfold Lib.byteCells
    rw [List.map_take]
  rw [hlen] at hst
  simp only [Nat.add_zero] at hst
  cases hq : P.info? elem with
  | none => simp [hq] at hs
  | some i =>
    simp [Builtin.copy_, run_underlying hu, Builtin.lenOf, Builtin.firstCells, sizeOf, typeInfo, hq, hmin]
    rw [htk, hst]
    simp [Result.andThen]
theorem wpList_copy_long {P : Program} {ops : Array Oper} {rest : List Oper} {o : Oper} {a : Act} {w : World} {Q : Exit → Act → World → Prop}
    (hgd : o.guard = none) (d x : Operand) (dT sT : TypeId) (hop : o.op = Op.call { callee := Callee.builtin Builtin.copy, args := #[d, x], argTypes := #[dT, sT] })
    (elem : TypeId) (hu : P.underlying dT = some (.slice elem)) (hs : (P.info? elem).map (·.size) = some 1) (g off dLen dCap : Nat) (hd : a.eval d = .slice (some ⟨g, off, none⟩) dLen dCap) (s : ByteArray) (hx : a.eval x = .string s)
    (cur : Array Value) (t : TypeId) (hg : w.heap[g]? = some (.cells cur t (0, 0))) (hge : dLen ≤ s.size) (hfit : off + dLen ≤ cur.size) (cs : Array Value) (hcs : (cur.toList.take off ++ Lib.byteCells (s.data.toList.take dLen) ++ cur.toList.drop (off + dLen)).toArray = cs)
    (hK : wpList P ops Q rest (a.put o.dst (goInt dLen)) (w.setRow g cs)) :
    wpList P ops Q (o :: rest) a w := by
  subst hcs
  refine wpList_plain hgd fun K hK' => ?_
  have hrun := run_copy_row_long (P := P) w dT sT o.type elem g off dLen dCap s cur t hu hs hg hge hfit
  unfold Oper.wp
  simp [execOp, hop, resolve, invoke, builtin, hd, hx, hrun, Result.andThen]
  exact hK' _ _ (by simpa using hK)
/-- parts in block p: a mark and a list -/
def Pa (w : World) (p : Nat) (H : List UInt8) (v : Value) : Prop := w.heap[p]? = some (.cells (u8s H ++ [v]).toArray 106 (0, 0))
theorem info8 : (Tryz.prog.info? 5).map (·.size) = some 1 := by kernel_rfl
theorem cells_put (Z l : List UInt8) (v : Value) (hz : Z.length = 32) (hl : l.length ≤ 32) : ((u8s Z ++ [v]).toArray.toList.take 0 ++ Lib.byteCells l ++ (u8s Z ++ [v]).toArray.toList.drop (0 + l.length)).toArray = (u8s (l ++ Z.drop l.length) ++ [v]).toArray := by
  have hu : (u8s Z).length = 32 := by rw [u8s_length, hz]
  congr 1
  rw [List.take_zero, List.nil_append, Nat.zero_add, List.drop_append_of_le_length (by omega), ← List.append_assoc]
  congr 1
  unfold u8s Lib.byteCells
  rw [List.map_append, List.map_drop]
theorem off_row (w : World) (p : Nat) (cs : Array Value) : Off (fun j => j = p) w (w.setRow p cs) := ⟨rfl, rfl, rfl, by simp [World.setRow], fun k _ hk => by simp [World.setRow, Array.getElem?_modify]; intro e; exact absurd e.symm hk⟩
theorem Pa.off {X : Nat → Prop} {w w' : World} {p : Nat} {H : List UInt8} {v : Value} (h : Pa w p H v) (ho : Off X w w') (hX : ¬ X p) : Pa w' p H v := (ho.block p (Array.getElem?_eq_some_iff.1 h).1 hX).trans h
theorem Pa.off2 {w : World} {p g : Nat} {H : List UInt8} {v u1 u2 : Value} (h : Pa w p H v) (hg : p ≠ g) : Pa ((w.setCell ⟨g, 0, none⟩ u1).setCell ⟨g, 1, none⟩ u2) p H v := (h.off (off_set w g 0 u1) hg).off (off_set _ g 1 u2) hg
set_option maxHeartbeats 4000000 in
theorem hash_ta {w : World} {g p : Nat} {s : S} {v0 : Value} (h : Ta w g s) (hp : Pa w p (List.replicate 32 0) v0) (hs : s.1.length ≤ 1099511627775) :
    Calls Tryz.prog 105 #[.pointer (some ⟨g, 0, none⟩), .pointer (some ⟨p, 0, none⟩)] w fun e w' => e = .returned (.tuple #[]) ∧ Ta w' g (tkB s) ∧ Pa w' p (baseOf s) v0 ∧ Off (fun j => j = g ∨ j = p) w w' := by
  obtain ⟨l, b⟩ := s
  have HGP := Lib.hid (show p ≠ g from fun e => by
    subst e
    have h1 := h
    unfold Ta at h1
    rw [show w.heap[p]? = _ from hp] at h1
    injection h1 with h2
    injection h2 with _ h3
    exact absurd h3 (by decide))
  have z0 : w.drew.cell? ⟨g, 0, none⟩ = some (.string (bs l)) := h.c0
  have HT := Lib.hid h
  have HP := Lib.hid (show w.drew.heap[p]? = some (.cells (u8s (List.replicate 32 0) ++ [v0]).toArray 106 (0, 0)) from hp)
  dsimp only at hs
  by_cases h32 : 32 ≤ l.length
  · have e1 : baseOf (l, b) = l.take 32 := by
      unfold baseOf
      dsimp only
      rw [show 32 - l.length = 0 by omega, List.replicate_zero, List.append_nil]
    have e2 : tkB (l, b) = (l.drop 32, b) := by
      unfold tkB
      dsimp only
      rw [decide_eq_false (by omega), Bool.or_false]
    rw [e1, e2]
    clear e1 e2 h hp
    obtain ⟨X, hX⟩ : ∃ X, bs l = X := ⟨_, rfl⟩
    have HXL := Lib.hid hX
    have hxs : X.size = l.length := by rw [← hX]; rfl
    rw [hX] at z0
    have HXS := Lib.hid (show 32 ≤ X.size by omega)
    have HFT := Lib.hid (show 0 + 32 ≤ (u8s (List.replicate 32 0) ++ [v0]).toArray.size by rw [List.size_toArray, List.length_append, u8s_length, List.length_replicate]; simp only [List.length_cons, List.length_nil]; decide)
    obtain ⟨B, hB⟩ : ∃ B, l.take 32 = B := ⟨_, rfl⟩
    obtain ⟨CS, hCS⟩ : ∃ C, (u8s B ++ [v0]).toArray = C := ⟨_, rfl⟩
    have HCS := Lib.hid hCS.symm
    have HCP := Lib.hid (show ((u8s (List.replicate 32 0) ++ [v0]).toArray.toList.take 0 ++ Lib.byteCells (X.data.toList.take 32) ++ (u8s (List.replicate 32 0) ++ [v0]).toArray.toList.drop (0 + 32)).toArray = CS by
      have hl : (l.take 32).length = 32 := by rw [List.length_take]; omega
      have := cells_put (List.replicate 32 0) (l.take 32) v0 (by rw [List.length_replicate]) (by omega)
      rw [hl] at this
      rw [← hX, ← hCS, ← hB]
      refine this.trans ?_
      rw [List.drop_of_length_le (by rw [List.length_replicate]; decide), List.append_nil])
    obtain ⟨r, hr⟩ : ∃ r, l.drop 32 = r := ⟨_, rfl⟩
    have x6 : X.extract 32 X.size = bs r := by rw [← hX, ← hr]; exact ex_drop l 32
    have x7 : 32 ≤ X.size := by omega
    have x8 : X.size ≤ 1099511627775 := by omega
    rw [hB, hr]
    clear hX hxs h32 hB hCS hr hs
    cases b with
    | true =>
      go_enter Tryz.func105, Tryz.ntmps105
      go_wp2_with fail
      refine wp_region_T (fun w' : World => w'.cell? ⟨g, 0, none⟩ = some (.string X)) 7 (by kernel_rfl) (by kernel_rfl) ?_
      have hS := z0
      refine take_T 0 5 (.pointer (some ⟨p, 0, none⟩)) rfl (by rfl) (by kernel_rfl) (by decide) (by kernel_rfl) (by kernel_rfl) (by kernel_rfl) (fun _ _ _ h => h) (Or.inl ⟨by rfl, fun w' hSw => by go_simp⟩) hS ?_
      simp only [List.setIfInBounds_toArray, List.set_cons_zero, List.set_cons_succ]
      refine take_T 1 6 (.pointer (some ⟨p, 0, none⟩)) rfl (by rfl) (by kernel_rfl) (by decide) (by kernel_rfl) (by kernel_rfl) (by kernel_rfl) (fun _ _ _ h => h) (Or.inl ⟨by rfl, fun w' hSw => by go_simp⟩) hS ?_
      simp only [List.setIfInBounds_toArray, List.set_cons_zero, List.set_cons_succ]
      refine take_T 2 7 (.slice (some ⟨p, 0, none⟩) 32 32) rfl (by rfl) (by kernel_rfl) (by decide) (by kernel_rfl) (by kernel_rfl) (by kernel_rfl) (fun _ _ _ h => h) (Or.inl ⟨by rfl, fun w' hSw => by go_simp⟩) hS ?_
      simp only [List.setIfInBounds_toArray, List.set_cons_zero, List.set_cons_succ]
      refine take_T 3 8 (.pointer (some ⟨g, 0, none⟩)) rfl (by rfl) (by kernel_rfl) (by decide) (by kernel_rfl) (by kernel_rfl) (by kernel_rfl) (fun _ _ _ h => h) (Or.inl ⟨by rfl, fun w' hSw => by go_simp⟩) hS ?_
      simp only [List.setIfInBounds_toArray, List.set_cons_zero, List.set_cons_succ]
      refine take_T 4 9 (.pointer (some ⟨g, 0, none⟩)) rfl (by rfl) (by kernel_rfl) (by decide) (by kernel_rfl) (by kernel_rfl) (by kernel_rfl) (fun _ _ _ h => h) (Or.inl ⟨by rfl, fun w' hSw => by go_simp⟩) hS ?_
      simp only [List.setIfInBounds_toArray, List.set_cons_zero, List.set_cons_succ]
      refine take_T 5 10 (.pointer (some ⟨g, 0, none⟩)) rfl (by rfl) (by kernel_rfl) (by decide) (by kernel_rfl) (by kernel_rfl) (by kernel_rfl) (fun _ _ _ h => h) (Or.inl ⟨by rfl, fun w' hSw => by go_simp⟩) hS ?_
      simp only [List.setIfInBounds_toArray, List.set_cons_zero, List.set_cons_succ]
      refine take_T 6 11 (.string X) rfl (by rfl) (by kernel_rfl) (by decide) (by kernel_rfl) (by kernel_rfl) (by kernel_rfl) (fun _ _ _ h => h) (Or.inl ⟨by rfl, fun w' hSw => by go_simp⟩) hS ?_
      simp only [List.setIfInBounds_toArray, List.set_cons_zero, List.set_cons_succ]
      refine done_T (by kernel_rfl) ?_
      simp only [List.drop_succ_cons, List.drop_zero]
      go_wp2_with ((refine wpList_copy_long rfl (.tmp 7) (.tmp 11) 60 9 rfl 5 Tryz.underlying60 info8 p 0 32 32 rfl X rfl (u8s (List.replicate 32 0) ++ [v0]).toArray 106 HP.out HXS.out HFT.out CS HCP.out ?_; have HR1 := Lib.hid (show Pa (w.drew.setRow p CS) p B v0 by rw [HCS.out]; exact setRow_heap w.drew p _ _ _ _ HP.out); have T1 := Lib.hid (show Ta (w.drew.setRow p CS) g (l, true) from (show Ta w.drew g (l, true) from HT.out).off (off_row w.drew p CS) (fun e => HGP.out e.symm)); have O1 := Lib.hid (show Off (fun j => j = g ∨ j = p) w (w.drew.setRow p CS) from (Off.of_below (Below.refl _ _).drew).trans (Di.Off.wide (off_row w.drew p CS) (fun j hj => .inr hj))); generalize w.drew.setRow p CS = w1 at *; have T2 := Lib.hid (T1.out.set0 r); have y1 := T2.out.c1; have y2 := T2.out.fz 1; have y3 := T1.out.fz 0; have y4 := T1.out.c0; have y5 := T1.out.c1; rw [HXL.out] at y4; dsimp only at y1 y2 y3 y4 y5; clear hS z0 HP HT))
      go_end0
      exact ⟨rfl, T2.out.set1 _, HR1.out.off2 HGP.out, (O1.out.trans (Di.Off.wide (off_set w1 g 0 _) (fun j hj => .inl hj))).trans (Di.Off.wide (off_set _ g 1 _) (fun j hj => .inl hj))⟩
    | false =>
      go_enter Tryz.func105, Tryz.ntmps105
      go_wp2_with fail
      refine wp_region_T (fun w' : World => w'.cell? ⟨g, 0, none⟩ = some (.string X)) 7 (by kernel_rfl) (by kernel_rfl) ?_
      have hS := z0
      refine take_T 0 5 (.pointer (some ⟨p, 0, none⟩)) rfl (by rfl) (by kernel_rfl) (by decide) (by kernel_rfl) (by kernel_rfl) (by kernel_rfl) (fun _ _ _ h => h) (Or.inl ⟨by rfl, fun w' hSw => by go_simp⟩) hS ?_
      simp only [List.setIfInBounds_toArray, List.set_cons_zero, List.set_cons_succ]
      refine take_T 1 6 (.pointer (some ⟨p, 0, none⟩)) rfl (by rfl) (by kernel_rfl) (by decide) (by kernel_rfl) (by kernel_rfl) (by kernel_rfl) (fun _ _ _ h => h) (Or.inl ⟨by rfl, fun w' hSw => by go_simp⟩) hS ?_
      simp only [List.setIfInBounds_toArray, List.set_cons_zero, List.set_cons_succ]
      refine take_T 2 7 (.slice (some ⟨p, 0, none⟩) 32 32) rfl (by rfl) (by kernel_rfl) (by decide) (by kernel_rfl) (by kernel_rfl) (by kernel_rfl) (fun _ _ _ h => h) (Or.inl ⟨by rfl, fun w' hSw => by go_simp⟩) hS ?_
      simp only [List.setIfInBounds_toArray, List.set_cons_zero, List.set_cons_succ]
      refine take_T 3 8 (.pointer (some ⟨g, 0, none⟩)) rfl (by rfl) (by kernel_rfl) (by decide) (by kernel_rfl) (by kernel_rfl) (by kernel_rfl) (fun _ _ _ h => h) (Or.inl ⟨by rfl, fun w' hSw => by go_simp⟩) hS ?_
      simp only [List.setIfInBounds_toArray, List.set_cons_zero, List.set_cons_succ]
      refine take_T 4 9 (.pointer (some ⟨g, 0, none⟩)) rfl (by rfl) (by kernel_rfl) (by decide) (by kernel_rfl) (by kernel_rfl) (by kernel_rfl) (fun _ _ _ h => h) (Or.inl ⟨by rfl, fun w' hSw => by go_simp⟩) hS ?_
      simp only [List.setIfInBounds_toArray, List.set_cons_zero, List.set_cons_succ]
      refine take_T 5 10 (.pointer (some ⟨g, 0, none⟩)) rfl (by rfl) (by kernel_rfl) (by decide) (by kernel_rfl) (by kernel_rfl) (by kernel_rfl) (fun _ _ _ h => h) (Or.inl ⟨by rfl, fun w' hSw => by go_simp⟩) hS ?_
      simp only [List.setIfInBounds_toArray, List.set_cons_zero, List.set_cons_succ]
      refine take_T 6 11 (.string X) rfl (by rfl) (by kernel_rfl) (by decide) (by kernel_rfl) (by kernel_rfl) (by kernel_rfl) (fun _ _ _ h => h) (Or.inl ⟨by rfl, fun w' hSw => by go_simp⟩) hS ?_
      simp only [List.setIfInBounds_toArray, List.set_cons_zero, List.set_cons_succ]
      refine done_T (by kernel_rfl) ?_
      simp only [List.drop_succ_cons, List.drop_zero]
      go_wp2_with ((refine wpList_copy_long rfl (.tmp 7) (.tmp 11) 60 9 rfl 5 Tryz.underlying60 info8 p 0 32 32 rfl X rfl (u8s (List.replicate 32 0) ++ [v0]).toArray 106 HP.out HXS.out HFT.out CS HCP.out ?_; have HR1 := Lib.hid (show Pa (w.drew.setRow p CS) p B v0 by rw [HCS.out]; exact setRow_heap w.drew p _ _ _ _ HP.out); have T1 := Lib.hid (show Ta (w.drew.setRow p CS) g (l, false) from (show Ta w.drew g (l, false) from HT.out).off (off_row w.drew p CS) (fun e => HGP.out e.symm)); have O1 := Lib.hid (show Off (fun j => j = g ∨ j = p) w (w.drew.setRow p CS) from (Off.of_below (Below.refl _ _).drew).trans (Di.Off.wide (off_row w.drew p CS) (fun j hj => .inr hj))); generalize w.drew.setRow p CS = w1 at *; have T2 := Lib.hid (T1.out.set0 r); have y1 := T2.out.c1; have y2 := T2.out.fz 1; have y3 := T1.out.fz 0; have y4 := T1.out.c0; have y5 := T1.out.c1; rw [HXL.out] at y4; dsimp only at y1 y2 y3 y4 y5; clear hS z0 HP HT))
      go_end0
      exact ⟨rfl, T2.out.set1 _, HR1.out.off2 HGP.out, (O1.out.trans (Di.Off.wide (off_set w1 g 0 _) (fun j hj => .inl hj))).trans (Di.Off.wide (off_set _ g 1 _) (fun j hj => .inl hj))⟩
  · have e1 : baseOf (l, b) = l ++ List.replicate (32 - l.length) 0 := by
      unfold baseOf
      dsimp only
      rw [List.take_of_length_le (by omega)]
    have e2 : tkB (l, b) = ([], true) := by
      unfold tkB
      dsimp only
      rw [decide_eq_true (by omega), Bool.or_true, List.drop_of_length_le (by omega)]
    rw [e1, e2]
    clear e1 e2 h hp
    obtain ⟨X, hX⟩ : ∃ X, bs l = X := ⟨_, rfl⟩
    have HXL := Lib.hid hX
    have hxs : X.size = l.length := by rw [← hX]; rfl
    rw [hX] at z0
    obtain ⟨k, hk⟩ : ∃ k, X.size = k := ⟨_, rfl⟩
    have HXS := Lib.hid (show X.size ≤ 32 by omega)
    have HFT := Lib.hid (show X.size ≤ (u8s (List.replicate 32 0) ++ [v0]).toArray.size by rw [List.size_toArray, List.length_append, u8s_length, List.length_replicate, hxs]; simp only [List.length_cons, List.length_nil]; omega)
    obtain ⟨B, hB⟩ : ∃ B, l ++ List.replicate (32 - l.length) 0 = B := ⟨_, rfl⟩
    obtain ⟨CS, hCS⟩ : ∃ C, (u8s B ++ [v0]).toArray = C := ⟨_, rfl⟩
    have HCS := Lib.hid hCS.symm
    have HCP := Lib.hid (show ((u8s (List.replicate 32 0) ++ [v0]).toArray.toList.take 0 ++ Lib.byteCells X.data.toList ++ (u8s (List.replicate 32 0) ++ [v0]).toArray.toList.drop (0 + X.size)).toArray = CS by
      have := cells_put (List.replicate 32 0) l v0 (by rw [List.length_replicate]) (by omega)
      rw [hxs, ← hX, ← hCS, ← hB]
      refine this.trans ?_
      rw [List.drop_replicate])
    have HXK := Lib.hid hk
    have x6 : X.extract k X.size = bs [] := by rw [hk, ← hX]; apply bs_ext; rw [ByteArray.data_extract, Array.toList_extract, List.extract_eq_take_drop, Nat.sub_self, List.take_zero]
    have x7 : k ≤ X.size := by omega
    have x9 : k < 32 := by omega
    have x10 : decide ((k : Int) < 32) = true := by rw [decide_eq_true_iff]; omega
    obtain ⟨r, hr⟩ : ∃ r : List UInt8, [] = r := ⟨_, rfl⟩
    rw [hr] at x6 ⊢
    rw [hB]
    have x5 : (X.size : Int) = (k : Int) := by rw [hk]
    clear hX hxs h32 hB hCS hr hs hk
    cases b with
    | true =>
      go_enter Tryz.func105, Tryz.ntmps105
      go_wp2_with fail
      refine wp_region_T (fun w' : World => w'.cell? ⟨g, 0, none⟩ = some (.string X)) 7 (by kernel_rfl) (by kernel_rfl) ?_
      have hS := z0
      refine take_T 0 5 (.pointer (some ⟨p, 0, none⟩)) rfl (by rfl) (by kernel_rfl) (by decide) (by kernel_rfl) (by kernel_rfl) (by kernel_rfl) (fun _ _ _ h => h) (Or.inl ⟨by rfl, fun w' hSw => by go_simp⟩) hS ?_
      simp only [List.setIfInBounds_toArray, List.set_cons_zero, List.set_cons_succ]
      refine take_T 1 6 (.pointer (some ⟨p, 0, none⟩)) rfl (by rfl) (by kernel_rfl) (by decide) (by kernel_rfl) (by kernel_rfl) (by kernel_rfl) (fun _ _ _ h => h) (Or.inl ⟨by rfl, fun w' hSw => by go_simp⟩) hS ?_
      simp only [List.setIfInBounds_toArray, List.set_cons_zero, List.set_cons_succ]
      refine take_T 2 7 (.slice (some ⟨p, 0, none⟩) 32 32) rfl (by rfl) (by kernel_rfl) (by decide) (by kernel_rfl) (by kernel_rfl) (by kernel_rfl) (fun _ _ _ h => h) (Or.inl ⟨by rfl, fun w' hSw => by go_simp⟩) hS ?_
      simp only [List.setIfInBounds_toArray, List.set_cons_zero, List.set_cons_succ]
      refine take_T 3 8 (.pointer (some ⟨g, 0, none⟩)) rfl (by rfl) (by kernel_rfl) (by decide) (by kernel_rfl) (by kernel_rfl) (by kernel_rfl) (fun _ _ _ h => h) (Or.inl ⟨by rfl, fun w' hSw => by go_simp⟩) hS ?_
      simp only [List.setIfInBounds_toArray, List.set_cons_zero, List.set_cons_succ]
      refine take_T 4 9 (.pointer (some ⟨g, 0, none⟩)) rfl (by rfl) (by kernel_rfl) (by decide) (by kernel_rfl) (by kernel_rfl) (by kernel_rfl) (fun _ _ _ h => h) (Or.inl ⟨by rfl, fun w' hSw => by go_simp⟩) hS ?_
      simp only [List.setIfInBounds_toArray, List.set_cons_zero, List.set_cons_succ]
      refine take_T 5 10 (.pointer (some ⟨g, 0, none⟩)) rfl (by rfl) (by kernel_rfl) (by decide) (by kernel_rfl) (by kernel_rfl) (by kernel_rfl) (fun _ _ _ h => h) (Or.inl ⟨by rfl, fun w' hSw => by go_simp⟩) hS ?_
      simp only [List.setIfInBounds_toArray, List.set_cons_zero, List.set_cons_succ]
      refine take_T 6 11 (.string X) rfl (by rfl) (by kernel_rfl) (by decide) (by kernel_rfl) (by kernel_rfl) (by kernel_rfl) (fun _ _ _ h => h) (Or.inl ⟨by rfl, fun w' hSw => by go_simp⟩) hS ?_
      simp only [List.setIfInBounds_toArray, List.set_cons_zero, List.set_cons_succ]
      refine done_T (by kernel_rfl) ?_
      simp only [List.drop_succ_cons, List.drop_zero]
      go_wp2_with ((refine wpList_copy_str rfl (.tmp 7) (.tmp 11) 60 9 rfl 5 Tryz.underlying60 info8 p 32 32 rfl X rfl (u8s (List.replicate 32 0) ++ [v0]).toArray 106 HP.out HXS.out HFT.out ?_; rw [HCP.out]; have HR1 := Lib.hid (show Pa (w.drew.setRow p CS) p B v0 by rw [HCS.out]; exact setRow_heap w.drew p _ _ _ _ HP.out); have T1 := Lib.hid (show Ta (w.drew.setRow p CS) g (l, true) from (show Ta w.drew g (l, true) from HT.out).off (off_row w.drew p CS) (fun e => HGP.out e.symm)); have O1 := Lib.hid (show Off (fun j => j = g ∨ j = p) w (w.drew.setRow p CS) from (Off.of_below (Below.refl _ _).drew).trans (Di.Off.wide (off_row w.drew p CS) (fun j hj => .inr hj))); generalize w.drew.setRow p CS = w1 at *; have T2 := Lib.hid (T1.out.set0 r); have y1 := T2.out.c1; have y2 := T2.out.fz 1; have y3 := T1.out.fz 0; have y4 := T1.out.c0; have y5 := T1.out.c1; rw [HXL.out] at y4; dsimp only at y1 y2 y3 y4 y5; clear hS z0 HP HT))
      go_end0
      exact ⟨rfl, T2.out.set1 _, HR1.out.off2 HGP.out, (O1.out.trans (Di.Off.wide (off_set w1 g 0 _) (fun j hj => .inl hj))).trans (Di.Off.wide (off_set _ g 1 _) (fun j hj => .inl hj))⟩
    | false =>
      go_enter Tryz.func105, Tryz.ntmps105
      go_wp2_with fail
      refine wp_region_T (fun w' : World => w'.cell? ⟨g, 0, none⟩ = some (.string X)) 7 (by kernel_rfl) (by kernel_rfl) ?_
      have hS := z0
      refine take_T 0 5 (.pointer (some ⟨p, 0, none⟩)) rfl (by rfl) (by kernel_rfl) (by decide) (by kernel_rfl) (by kernel_rfl) (by kernel_rfl) (fun _ _ _ h => h) (Or.inl ⟨by rfl, fun w' hSw => by go_simp⟩) hS ?_
      simp only [List.setIfInBounds_toArray, List.set_cons_zero, List.set_cons_succ]
      refine take_T 1 6 (.pointer (some ⟨p, 0, none⟩)) rfl (by rfl) (by kernel_rfl) (by decide) (by kernel_rfl) (by kernel_rfl) (by kernel_rfl) (fun _ _ _ h => h) (Or.inl ⟨by rfl, fun w' hSw => by go_simp⟩) hS ?_
      simp only [List.setIfInBounds_toArray, List.set_cons_zero, List.set_cons_succ]
      refine take_T 2 7 (.slice (some ⟨p, 0, none⟩) 32 32) rfl (by rfl) (by kernel_rfl) (by decide) (by kernel_rfl) (by kernel_rfl) (by kernel_rfl) (fun _ _ _ h => h) (Or.inl ⟨by rfl, fun w' hSw => by go_simp⟩) hS ?_
      simp only [List.setIfInBounds_toArray, List.set_cons_zero, List.set_cons_succ]
      refine take_T 3 8 (.pointer (some ⟨g, 0, none⟩)) rfl (by rfl) (by kernel_rfl) (by decide) (by kernel_rfl) (by kernel_rfl) (by kernel_rfl) (fun _ _ _ h => h) (Or.inl ⟨by rfl, fun w' hSw => by go_simp⟩) hS ?_
      simp only [List.setIfInBounds_toArray, List.set_cons_zero, List.set_cons_succ]
      refine take_T 4 9 (.pointer (some ⟨g, 0, none⟩)) rfl (by rfl) (by kernel_rfl) (by decide) (by kernel_rfl) (by kernel_rfl) (by kernel_rfl) (fun _ _ _ h => h) (Or.inl ⟨by rfl, fun w' hSw => by go_simp⟩) hS ?_
      simp only [List.setIfInBounds_toArray, List.set_cons_zero, List.set_cons_succ]
      refine take_T 5 10 (.pointer (some ⟨g, 0, none⟩)) rfl (by rfl) (by kernel_rfl) (by decide) (by kernel_rfl) (by kernel_rfl) (by kernel_rfl) (fun _ _ _ h => h) (Or.inl ⟨by rfl, fun w' hSw => by go_simp⟩) hS ?_
      simp only [List.setIfInBounds_toArray, List.set_cons_zero, List.set_cons_succ]
      refine take_T 6 11 (.string X) rfl (by rfl) (by kernel_rfl) (by decide) (by kernel_rfl) (by kernel_rfl) (by kernel_rfl) (fun _ _ _ h => h) (Or.inl ⟨by rfl, fun w' hSw => by go_simp⟩) hS ?_
      simp only [List.setIfInBounds_toArray, List.set_cons_zero, List.set_cons_succ]
      refine done_T (by kernel_rfl) ?_
      simp only [List.drop_succ_cons, List.drop_zero]
      go_wp2_with ((refine wpList_copy_str rfl (.tmp 7) (.tmp 11) 60 9 rfl 5 Tryz.underlying60 info8 p 32 32 rfl X rfl (u8s (List.replicate 32 0) ++ [v0]).toArray 106 HP.out HXS.out HFT.out ?_; rw [HCP.out]; have HR1 := Lib.hid (show Pa (w.drew.setRow p CS) p B v0 by rw [HCS.out]; exact setRow_heap w.drew p _ _ _ _ HP.out); have T1 := Lib.hid (show Ta (w.drew.setRow p CS) g (l, false) from (show Ta w.drew g (l, false) from HT.out).off (off_row w.drew p CS) (fun e => HGP.out e.symm)); have O1 := Lib.hid (show Off (fun j => j = g ∨ j = p) w (w.drew.setRow p CS) from (Off.of_below (Below.refl _ _).drew).trans (Di.Off.wide (off_row w.drew p CS) (fun j hj => .inr hj))); generalize w.drew.setRow p CS = w1 at *; have T2 := Lib.hid (T1.out.set0 r); have y1 := T2.out.c1; have y2 := T2.out.fz 1; have y3 := T1.out.fz 0; have y4 := T1.out.c0; have y5 := T1.out.c1; rw [HXL.out] at y4; dsimp only at y1 y2 y3 y4 y5; clear hS z0 HP HT))
      go_end0
      exact ⟨rfl, T2.out.set1 _, HR1.out.off2 HGP.out, (O1.out.trans (Di.Off.wide (off_set w1 g 0 _) (fun j hj => .inl hj))).trans (Di.Off.wide (off_set _ g 1 _) (fun j hj => .inl hj))⟩
end Go.Proofs.YtjkmfonngbendaaGreatDoor.Se
/- Contracts of package strings' HasPrefix and of package item's Under. -/
namespace Go.Proofs.YtjkmfonngbendaaGreatDoor.It
set_option linter.unusedVariables false
set_option maxRecDepth 100000
open Go.ChangeShapes Go.WideShapes Go.ChangeAt Go.RowKit
open Ar Rg St
open BigFrame
theorem up_srt {D : List Itm} (h : UpK key D) : Srt key lt D := Up.srt h
theorem pre_take : ∀ p s : List UInt8, p.isPrefixOf s = (decide (p.length ≤ s.length) && decide (s.take p.length = p))
  | [], s => by simp
  | x :: p, [] => by simp
  | x :: p, y :: s => by
    show (x == y && p.isPrefixOf s) = _
    rw [pre_take p s]
    by_cases h : x = y
    · subst h
      simp
    · have h2 : ¬ y = x := fun e => h e.symm
      simp [h, h2]
def pfx (p s : ByteArray) : Bool := p.data.toList.isPrefixOf s.data.toList
theorem litePrefix_any (s p : ByteArray) (hs : s.size ≤ 9223372036854775807) (hp : p.size ≤ 9223372036854775807) (w : World) :
    Calls Tryz.prog 161 #[.string s, .string p] w fun e w' => e = .returned (.bool (pfx p s)) ∧ w = w' := by
  have hl : s.data.toList.length = s.size := by simp
  have hl2 : p.data.toList.length = p.size := by simp
  obtain ⟨q, hq⟩ : ∃ q, pfx p s = q := ⟨_, rfl⟩
  rw [hq]
  rw [pfx, pre_take, hl, hl2] at hq
  by_cases h : p.size ≤ s.size
  · have h1 : decide ((p.size : Int) ≤ (s.size : Int)) = true := by rw [decide_eq_true_iff]; omega
    have he : ((s.extract 0 p.size).toList == p.toList) = q := by
      rw [← hq, decide_eq_true h, Bool.true_and, str_eq]
      refine decide_eq_decide.2 ?_
      rw [ByteArray.data_extract]
      simp
    clear hq hl hl2
    go_enter Tryz.func161, Tryz.ntmps161
    go_wp2
    go_ret
    exact ⟨rfl, rfl⟩
  · have h1 : decide ((p.size : Int) ≤ (s.size : Int)) = false := by rw [decide_eq_false_iff_not]; omega
    have hq' : q = false := by rw [← hq, decide_eq_false h]; rfl
    subst hq'
    clear hq hl hl2
    go_enter Tryz.func161, Tryz.ntmps161
    go_wp2
    go_ret
    exact ⟨rfl, rfl⟩
theorem hasPrefix_any (s p : ByteArray) (hs : s.size ≤ 9223372036854775807) (hp : p.size ≤ 9223372036854775807) (w : World) :
    Calls Tryz.prog 118 #[.string s, .string p] w fun e w' => e = .returned (.bool (pfx p s)) ∧ w = w' := by
  have HC := Lib.hid (litePrefix_any s p hs hp w)
  go_enter Tryz.func118, Tryz.ntmps118
  go_wp2_with (go_at_call 161; refine HC.out.mono ?_; rintro e w' ⟨rfl, rfl⟩)
  go_ret
  exact ⟨rfl, rfl⟩
/-- how far what is under the prefix goes -/
def AtU (D : List Itm) (p : ByteArray) (i e : Nat) : Prop := i ≤ e ∧ ∀ x ∈ (D.drop i).take (e - i), pre p x = true
theorem AtU.more {D : List Itm} {p : ByteArray} {i e : Nat} {x : Itm} (h : AtU D p i e) (hx : D[e]? = some x) (hp : pre p x = true) : AtU D p i (e + 1) := by
  obtain ⟨h1, h2⟩ := h
  refine ⟨by omega, fun y hy => ?_⟩
  rw [show e + 1 - i = (e - i) + 1 by omega, List.take_add_one] at hy
  rcases List.mem_append.1 hy with hy | hy
  · exact h2 y hy
  · rw [List.getElem?_drop, show i + (e - i) = e by omega, hx] at hy
    simp at hy; subst hy; exact hp
theorem takeWhile_of {α : Type} (p : α → Bool) : ∀ (l : List α) (k : Nat), (∀ x ∈ l.take k, p x = true) → (l.length ≤ k ∨ ∃ y, l[k]? = some y ∧ p y = false) → l.takeWhile p = l.take k
  | [], k, _, _ => by simp
  | x :: l, 0, _, h => by
    rcases h with h | ⟨y, h1, h2⟩
    · simp at h
    · simp at h1; subst h1
      rw [List.takeWhile_cons_of_neg (by simp [h2])]; rfl
  | x :: l, k + 1, h, h' => by
    have hx : p x = true := h x (by rw [List.take_succ_cons]; exact List.mem_cons_self)
    rw [List.takeWhile_cons_of_pos hx, List.take_succ_cons, takeWhile_of p l k (fun y hy => h y (by rw [List.take_succ_cons]; exact List.mem_cons_of_mem _ hy)) (by
      rcases h' with h' | ⟨y, h1, h2⟩
      · left; simpa using h'
      · right; exact ⟨y, by simpa using h1, h2⟩)]
theorem AtU.done {D : List Itm} {p : ByteArray} {i e : Nat} (hD : UpK key D) (hp : At D p i) (h : AtU D p i e) (hx : D.length ≤ e ∨ ∃ y, D[e]? = some y ∧ pre p y = false) : (D.drop i).take (e - i) = und D p := by
  rw [und_piece hD hp]
  refine (takeWhile_of _ _ _ h.2 ?_).symm
  have := h.1
  rcases hx with hx | ⟨y, h1, h2⟩
  · left; rw [List.length_drop]; omega
  · right; exact ⟨y, by rw [List.getElem?_drop, show i + (e - i) = e by omega]; exact h1, h2⟩
def er (b : Bool) : Int := if b then 0 else 4
theorem okI_sizes {D : List Itm} (h : rt D = true) {i : Nat} {x : Itm} (hx : D[i]? = some x) : x.k.size ≤ 48 ∧ x.v.size ≤ 160 := by
  have := (rt_iff.1 h).2 x (List.mem_of_getElem? hx)
  simp only [okI, okKey, Bool.and_eq_true, decide_eq_true_iff] at this
  exact ⟨this.1.2, this.2⟩
set_option maxRecDepth 100000 in
set_option maxHeartbeats 1000000 in
theorem under_any (D : List Itm) (p : ByteArray) (hps : p.size ≤ 9223372036854775807) (A : Option Addr) (n c B : Nat) (hn : n = D.length) (hc : n ≤ c) (hcm : c ≤ maxLen) (hlen : n ≤ 4398046511104) (w : World) (hB : B ≤ w.heap.size) (hD : Ls enc 2 w B A D) :
    Calls Tryz.prog 69 #[.slice A n c, .string p] w fun e w' => ∃ v, e = .returned (.tuple #[v, .int .i64 (er (rt D))]) ∧ MkI w w' v (if rt D then und D p else []) := by
  unfold maxLen at hcm
  have HN := Lib.hid hn
  have HD := Lib.hid hD
  have HC := Lib.hid (rightList_any D A n c B hn (by omega) w hB hD)
  clear hn hD
  cases hrt : rt D
  · rw [hrt] at HC
    go_enter Tryz.func69, Tryz.ntmps69
    go_wp2_with (go_at_call 41; refine HC.out.mono ?_; rintro e w1 ⟨rfl, hb1⟩; have HB1 := Lib.hid hb1; clear hb1)
    go_ret2
    exact ⟨_, rfl, Mk.nil HB1.out⟩
  · have HR := Lib.hid hrt
    rw [hrt] at HC
    clear hrt
    go_enter Tryz.func69, Tryz.ntmps69
    go_wp2_with fail
    go_at_call 41
    refine HC.out.mono ?_
    rintro e w1 ⟨rfl, hb1⟩
    have HB1 := Lib.hid hb1
    clear hb1 HC
    go_wp2_with fail
    go_at_call 82
    refine (place_any D p A n c B HN.out (by omega) (up_srt (rt_iff.1 HR.out).1) w1 (Nat.le_trans hB HB1.out.size) (HD.out.below (HB1.out.mono hB))).mono ?_
    rintro e w2 ⟨f, hf, rfl, hb2⟩
    have hfn : f ≤ n := by rw [HN.out]; exact hf.1
    have HF := Lib.hid hf
    have HB2 := Lib.hid (HB1.out.trans (hb2.mono HB1.out.size))
    clear hb2 HB1 hf
    obtain ⟨A1, hif⟩ : ∃ A1, (if c = f then A else Option.map (fun x => x.add (f * 2)) A) = A1 := ⟨_, rfl⟩
    have HL1 := Lib.hid (show Ls enc 2 w B A1 (D.drop f) from hif ▸ HD.out.drop HN.out hc hfn)
    go_wp2_with fail
    go_loopw [8] (fun v wr => ∃ e : Nat, f ≤ e ∧ e ≤ n ∧ v = .int .i64 e ∧ Hid (AtU D p f e) ∧ Hid (Below w.heap.size w wr)) (fun v _ => n - (intOf v).toNat)
    case atStart => exact ⟨f, Nat.le_refl _, hfn, by go_num, ⟨Nat.le_refl _, by simp⟩, HB2.out⟩
    case round =>
      obtain ⟨e, hfe, hen, rfl, hat, hbel⟩ := hrel
      by_cases hlt : e < n
      · obtain ⟨x, hx⟩ : ∃ x, D[e]? = some x := ⟨_, List.getElem?_eq_getElem (by rw [← HN.out]; exact hlt)⟩
        obtain ⟨b, o, hAe, hb, hr⟩ := (HD.out.below ((Hid.out hbel).mono hB)) e x hx
        have hbs : b < wr.heap.size := Nat.lt_of_lt_of_le hb (Nat.le_trans hB (Hid.out hbel).size)
        have hc0 : wr.cell? ⟨b, o + e * 2, none⟩ = some (.string x.k) := hr 0 _ rfl
        clear hr
        subst hAe
        obtain ⟨q, hq⟩ : ∃ q, pfx p x.k = q := ⟨_, rfl⟩
        have hqc := hasPrefix_any x.k p (by have := (okI_sizes HR.out hx).1; omega) hps
        rw [hq] at hqc
        have HQC := Lib.hid hqc
        clear hqc
        cases q
        · have HU := Lib.hid (show (D.drop f).take (e - f) = und D p from (Hid.out hat).done (rt_iff.1 HR.out).1 HF.out (.inr ⟨x, hx, hq⟩))
          have hA1 : A1 = some ⟨b, o + f * 2, none⟩ := by rw [← hif, if_neg (by omega), Option.map_some, Ar.add_plain]
          clear hif
          subst hA1
          clear hat hx hq
          have HLL := Lib.hid (show e - f = ((D.drop f).take (e - f)).length by rw [List.length_take, List.length_drop, ← HN.out]; omega)
          go_wp2_with (first
            | (go_at_call 118; refine (HQC.out _).mono ?_; rintro e w3 ⟨rfl, rfl⟩)
            | (at_builtin; refine catI (Mk.nil (Hid.out hbel)) ((D.drop f).take (e - f)) _ (e - f) _ HLL.out ((HL1.out.take (e - f)).below ((Hid.out hbel).mono hB)) (by simp; omega) rfl _ _ rfl rfl rfl ?_; intro v3 w3 hM3 hG3; have HM3 := Lib.hid hM3; clear hM3 hG3))
          go_ret2
          refine ⟨_, rfl, ?_⟩
          have := HM3.out
          rw [List.nil_append, HU.out] at this
          exact this
        · have HA := Lib.hid ((Hid.out hat).more hx hq)
          clear hat hx hq
          go_wp2_with (go_at_call 118; refine (HQC.out _).mono ?_; rintro e w3 ⟨rfl, rfl⟩)
          exact ⟨⟨e + 1, by omega, by omega, by go_num, HA.out, Hid.out hbel⟩, by simp [intOf] <;> omega⟩
      · have HU := Lib.hid (show (D.drop f).take (e - f) = und D p from (Hid.out hat).done (rt_iff.1 HR.out).1 HF.out (.inl (by rw [← HN.out]; omega)))
        have HLL := Lib.hid (show e - f = ((D.drop f).take (e - f)).length by rw [List.length_take, List.length_drop, ← HN.out]; omega)
        clear hat
        go_wp2_with (at_builtin; refine catI (Mk.nil (Hid.out hbel)) ((D.drop f).take (e - f)) _ (e - f) _ HLL.out ((HL1.out.take (e - f)).below ((Hid.out hbel).mono hB)) (by simp; omega) rfl _ _ rfl rfl rfl ?_; intro v3 w3 hM3 hG3; have HM3 := Lib.hid hM3; clear hM3 hG3)
        go_ret2
        refine ⟨_, rfl, ?_⟩
        have := HM3.out
        rw [List.nil_append, HU.out] at this
        exact this
end Go.Proofs.YtjkmfonngbendaaGreatDoor.It
/- Contract of package item's changed: a list with changes done that rise by key. -/
namespace Go.Proofs.YtjkmfonngbendaaGreatDoor.It
set_option linter.unusedVariables false
set_option maxRecDepth 100000
open Go.ChangeShapes Go.WideShapes Go.ChangeAt Go.RowKit
open Ar Rg St
open BigFrame
/-- what is left of the list and of the changes, what has been put -/
def AtA (D : List Itm) (L : List Ch) (i : Nat) (R O : List Itm) : Prop := UpK key R ∧ O ++ app R (L.drop i) = app D L ∧ R.length + O.length ≤ D.length + i
theorem AtA.step {D R O : List Itm} {L : List Ch} {i p : Nat} {c : Ch} (h : AtA D L i R O) (hL : UpK Sc.key L) (hc : L[i]? = some c) (hp : At R c.k p) :
    AtA D L (i + 1) (R.drop (p + if found R c.k p then 1 else 0)) (O ++ R.take p ++ (if c.h then [itm c] else [])) := by
  obtain ⟨h1, h2, h3⟩ := h
  refine ⟨h1.sub (List.drop_sublist _ _), ?_, ?_⟩
  · rw [← h2, drop_atC hc, app_step h1 (by rw [← drop_atC hc]; exact hL.sub (List.drop_sublist _ _)) hp]
    simp only [List.append_assoc]
  · have : (if c.h then [itm c] else []).length ≤ 1 := by split <;> simp
    have hp1 := hp.1
    simp only [List.length_drop, List.length_append, List.length_take]
    omega
theorem found_lt {R : List Itm} {k : ByteArray} {p : Nat} (h : found R k p = true) : p < R.length := by
  unfold found at h
  cases hx : R[p]? with
  | none => rw [hx] at h; cases h
  | some y => exact (List.getElem?_eq_some_iff.1 hx).1
set_option linter.unusedSimpArgs false in
set_option maxRecDepth 100000 in
set_option maxHeartbeats 2000000 in
theorem changed_any (D : List Itm) (L : List Ch) (A A' : Option Addr) (n c n' c' B B' : Nat) (hn : n = D.length) (hc : n ≤ c) (hcm : c ≤ maxLen) (hn' : n' = L.length) (hlen : n ≤ 1099511627776) (hlen' : n' ≤ 1099511627776) (hD : UpK key D) (hL : UpK Sc.key L)
    (w : World) (hB : B ≤ w.heap.size) (hB' : B' ≤ w.heap.size) (hA : Ls enc 2 w B A D) (hA' : Ls Sc.enc 3 w B' A' L) :
    Calls Tryz.prog 43 #[.slice A n c, .slice A' n' c'] w fun e w' => ∃ v, e = .returned v ∧ MkI w w' v (app D L) := by
  unfold maxLen at hcm
  have HN' := Lib.hid hn'
  have HD := Lib.hid hD
  have HDL := Lib.hid (show D.length ≤ 1099511627776 by omega)
  have HL := Lib.hid hL
  have HA' := Lib.hid hA'
  have H0 := Lib.hid (show n = D.length ∧ n ≤ c ∧ c ≤ 9223372036854775807 ∧ Ls enc 2 w B A D from ⟨hn, hc, hcm, hA⟩)
  clear hn hn' hD hL hA hA' hc hcm
  go_enter Tryz.func43, Tryz.ntmps43
  go_wp2_with fail
  go_loopw [0, 5, 12] (fun lv ov v wr => ∃ (i : Nat) (R O : List Itm) (A : Option Addr) (n c : Nat), i ≤ n' ∧ v = .int .i64 i ∧ lv = .slice A n c ∧ Hid (n = R.length ∧ n ≤ c ∧ c ≤ 9223372036854775807 ∧ Ls enc 2 w B A R) ∧ Hid (AtA D L i R O) ∧ Hid (MkI w wr ov O)) (fun _ _ v _ => n' - (intOf v).toNat)
  case atStart => exact ⟨0, D, [], A, n, c, Nat.zero_le _, by go_num, rfl, H0.out, ⟨HD.out, rfl, by simp⟩, Mk.nil (Below.refl _ _)⟩
  case round =>
    clear H0
    obtain ⟨i, R, O, A, n, c, hi, rfl, rfl, hl, hat, hm⟩ := hrel
    by_cases hlt : i < n'
    · obtain ⟨x, hx⟩ : ∃ x, L[i]? = some x := ⟨_, List.getElem?_eq_getElem (by rw [← HN'.out]; exact hlt)⟩
      obtain ⟨b, o, hAe, hb, hr⟩ := (HA'.out.below ((Hid.out hm).2.mono hB')) i x hx
      have hbs : b < wr.heap.size := Nat.lt_of_lt_of_le hb (Nat.le_trans hB' (Hid.out hm).2.size)
      have hc0 : wr.cell? ⟨b, o + i * 3, none⟩ = some (.string x.k) := hr 0 _ rfl
      have hc1 : wr.cell? ⟨b, o + i * 3 + 1, none⟩ = some (.bool x.h) := hr 1 _ rfl
      have hc2 : wr.cell? ⟨b, o + i * 3 + 2, none⟩ = some (.string x.v) := hr 2 _ rfl
      clear hr
      subst hAe
      have HM := Lib.hid (show MkI w (wr.alloc (.cells #[.string x.k, .bool x.h, .string x.v] 41)) _ O from (Hid.out hm).alloc _)
      have hd0 : (wr.alloc (.cells #[.string x.k, .bool x.h, .string x.v] 41)).cell? ⟨wr.heap.size, 0, none⟩ = some (.string x.k) := by simp
      have hd1 : (wr.alloc (.cells #[.string x.k, .bool x.h, .string x.v] 41)).cell? ⟨wr.heap.size, 1, none⟩ = some (.bool x.h) := by simp
      have hd2 : (wr.alloc (.cells #[.string x.k, .bool x.h, .string x.v] 41)).cell? ⟨wr.heap.size, 2, none⟩ = some (.string x.v) := by simp
      have hncc := (Hid.out hl).2.1
      have hcm := (Hid.out hl).2.2.1
      go_wp2_with fail
      go_at_call 82
      refine (place_any R x.k A n c B (Hid.out hl).1 (by have := (Hid.out hl).1; have := (Hid.out hat).2.2; have := HN'.out; have := HDL.out; omega) (up_srt (Hid.out hat).1) _ (by have := (Hid.out hm).2.size; simp; omega) ((Hid.out hl).2.2.2.below ((Hid.out HM.out).2.mono hB))).mono ?_
      rintro e w2 ⟨p, hp, rfl, hb2⟩
      have HM2 := Lib.hid (HM.out.go hb2)
      have hpn : p ≤ n := by rw [(Hid.out hl).1]; exact hp.1
      have HP := Lib.hid hp
      have hlt2 : wr.heap.size < w2.heap.size := by have := hb2.size; simp at this; omega
      have he0 : w2.cell? ⟨wr.heap.size, 0, none⟩ = some (.string x.k) := (hb2.cell (p := ⟨wr.heap.size, 0, none⟩) (by simp)).trans hd0
      have he1 : w2.cell? ⟨wr.heap.size, 1, none⟩ = some (.bool x.h) := (hb2.cell (p := ⟨wr.heap.size, 1, none⟩) (by simp)).trans hd1
      have he2 : w2.cell? ⟨wr.heap.size, 2, none⟩ = some (.string x.v) := (hb2.cell (p := ⟨wr.heap.size, 2, none⟩) (by simp)).trans hd2
      clear hb2 HM hp hd0 hd1 hd2 hc0 hc1 hc2
      have hop : O.length + n ≤ 2199023255552 := by
        have h1 := (Hid.out hl).1
        have h2 := (Hid.out hat).2.2
        have h3 := HDL.out
        omega
      have htl : (R.take p).length = p := by rw [List.length_take]; have := (Hid.out hl).1; omega
      have HTL := Lib.hid htl.symm
      clear htl
      obtain ⟨A1, hif⟩ : ∃ A1, (if c = p then A else Option.map (fun x => x.add (p * 2)) A) = A1 := ⟨_, rfl⟩
      have HL1 := Lib.hid (show Ls enc 2 w B A1 (R.drop p) from hif ▸ (Hid.out hl).2.2.2.drop (Hid.out hl).1 hncc hpn)
      have hst := (Hid.out hat).step HL.out hx HP.out
      by_cases hf : found R x.k p = true
      · have hp1 : p < n := by rw [(Hid.out hl).1]; exact found_lt hf
        have hone : (1 : Int) ≤ ((n - p : Nat) : Int) := by omega
        rw [if_neg (by omega)] at hif
        obtain ⟨A2, hif2⟩ : ∃ A2, (if c - p = 1 then A1 else Option.map (fun x => ({ block := x.block, off := x.off + 2 } : Addr)) A1) = A2 := ⟨_, rfl⟩
        have HL2 := Lib.hid (show Ls enc 2 w B A2 (R.drop (p + 1)) from by
          rw [← hif2, ← List.drop_drop]
          exact HL1.out.drop (n := n - p) (c := c - p) (p := 1) (by rw [List.length_drop, ← (Hid.out hl).1]) (by omega) (by omega))
        by_cases hh : x.h = true
        · rw [hh] at he1
          simp only [hf, hh, if_true, Bool.false_eq_true, if_false, Nat.add_zero, List.append_nil] at hst
          have HST := Lib.hid hst
          clear hst hx
          go_wp2_with (first | (at_builtin; refine catI (HM3.out.alloc _) [itm x] _ 1 1 rfl (Ls.new _ (itm x) _ _ (Nat.lt_succ_self _)) (by simp only [List.length_append, List.length_take]; omega) rfl _ _ rfl rfl rfl ?_; intro v4 w4 hM4 hG4; have HM4 := Lib.hid hM4; clear hM4 hG4) | (at_builtin; refine catI HM2.out (R.take p) A p c HTL.out ((((Hid.out hl).2.2.2.take p).below (HM2.out.2.mono hB))) (by omega) rfl _ _ rfl rfl rfl ?_; intro v3 w3 hM3 hG3; have HM3 := Lib.hid hM3; have hd0 := (Hid.out hm).keep hG3 (Nat.le_refl _) he0; have hd1 := (Hid.out hm).keep hG3 (Nat.le_refl _) he1; have hd2 := (Hid.out hm).keep hG3 (Nat.le_refl _) he2; clear hM3 hG3 he0 he1 he2))
          exact ⟨⟨i + 1, R.drop (p + 1), O ++ R.take p ++ [itm x], A2, n - p - 1, c - p - 1, by omega, by go_num, rfl, ⟨by rw [List.length_drop, ← (Hid.out hl).1] <;> omega, by omega, by omega, HL2.out⟩, HST.out, HM4.out⟩, by simp [intOf] <;> omega⟩
        · have hh : x.h = false := by simpa using hh
          rw [hh] at he1
          simp only [hf, hh, if_true, Bool.false_eq_true, if_false, Nat.add_zero, List.append_nil] at hst
          have HST := Lib.hid hst
          clear hst hx
          go_wp2_with (at_builtin; refine catI HM2.out (R.take p) A p c HTL.out ((((Hid.out hl).2.2.2.take p).below (HM2.out.2.mono hB))) (by omega) rfl _ _ rfl rfl rfl ?_; intro v3 w3 hM3 hG3; have HM3 := Lib.hid hM3; have hd0 := (Hid.out hm).keep hG3 (Nat.le_refl _) he0; have hd1 := (Hid.out hm).keep hG3 (Nat.le_refl _) he1; have hd2 := (Hid.out hm).keep hG3 (Nat.le_refl _) he2; clear hM3 hG3 he0 he1 he2)
          exact ⟨⟨i + 1, R.drop (p + 1), O ++ R.take p, A2, n - p - 1, c - p - 1, by omega, by go_num, rfl, ⟨by rw [List.length_drop, ← (Hid.out hl).1] <;> omega, by omega, by omega, HL2.out⟩, HST.out, HM3.out⟩, by simp [intOf] <;> omega⟩
      · have hf : found R x.k p = false := by simpa using hf
        by_cases hh : x.h = true
        · rw [hh] at he1
          simp only [hf, hh, if_true, Bool.false_eq_true, if_false, Nat.add_zero, List.append_nil] at hst
          have HST := Lib.hid hst
          clear hst hx
          go_wp2_with (first | (at_builtin; refine catI (HM3.out.alloc _) [itm x] _ 1 1 rfl (Ls.new _ (itm x) _ _ (Nat.lt_succ_self _)) (by simp only [List.length_append, List.length_take]; omega) rfl _ _ rfl rfl rfl ?_; intro v4 w4 hM4 hG4; have HM4 := Lib.hid hM4; clear hM4 hG4) | (at_builtin; refine catI HM2.out (R.take p) A p c HTL.out ((((Hid.out hl).2.2.2.take p).below (HM2.out.2.mono hB))) (by omega) rfl _ _ rfl rfl rfl ?_; intro v3 w3 hM3 hG3; have HM3 := Lib.hid hM3; have hd0 := (Hid.out hm).keep hG3 (Nat.le_refl _) he0; have hd1 := (Hid.out hm).keep hG3 (Nat.le_refl _) he1; have hd2 := (Hid.out hm).keep hG3 (Nat.le_refl _) he2; clear hM3 hG3 he0 he1 he2))
          exact ⟨⟨i + 1, R.drop p, O ++ R.take p ++ [itm x], A1, n - p, c - p, by omega, by go_num, rfl, ⟨by rw [List.length_drop, ← (Hid.out hl).1] <;> omega, by omega, by omega, HL1.out⟩, HST.out, HM4.out⟩, by simp [intOf] <;> omega⟩
        · have hh : x.h = false := by simpa using hh
          rw [hh] at he1
          simp only [hf, hh, if_true, Bool.false_eq_true, if_false, Nat.add_zero, List.append_nil] at hst
          have HST := Lib.hid hst
          clear hst hx
          go_wp2_with (at_builtin; refine catI HM2.out (R.take p) A p c HTL.out ((((Hid.out hl).2.2.2.take p).below (HM2.out.2.mono hB))) (by omega) rfl _ _ rfl rfl rfl ?_; intro v3 w3 hM3 hG3; have HM3 := Lib.hid hM3; have hd0 := (Hid.out hm).keep hG3 (Nat.le_refl _) he0; have hd1 := (Hid.out hm).keep hG3 (Nat.le_refl _) he1; have hd2 := (Hid.out hm).keep hG3 (Nat.le_refl _) he2; clear hM3 hG3 he0 he1 he2)
          exact ⟨⟨i + 1, R.drop p, O ++ R.take p, A1, n - p, c - p, by omega, by go_num, rfl, ⟨by rw [List.length_drop, ← (Hid.out hl).1] <;> omega, by omega, by omega, HL1.out⟩, HST.out, HM3.out⟩, by simp [intOf] <;> omega⟩
    · have HO := Lib.hid (show O ++ R = app D L by
        have h := (Hid.out hat).2.1
        rw [List.drop_eq_nil_of_le (by rw [← HN'.out]; omega)] at h
        exact h)
      have hop : O.length + n ≤ 4398046511104 := by
        have h1 := (Hid.out hl).1
        have h2 := (Hid.out hat).2.2
        have h3 := HDL.out
        omega
      go_wp2_with (at_builtin; refine catI (Hid.out hm) R A n c (Hid.out hl).1 ((Hid.out hl).2.2.2.below ((Hid.out hm).2.mono hB)) (by omega) rfl _ _ rfl rfl rfl ?_; intro v3 w3 hM3 hG3; have HM3 := Lib.hid hM3; clear hM3 hG3)
      go_ret
      exact ⟨_, rfl, by rw [← HO.out]; exact HM3.out⟩
end Go.Proofs.YtjkmfonngbendaaGreatDoor.It
/- Contract of package item's lastOfEach: of each key the change that is done last, by key. -/
namespace Go.Proofs.YtjkmfonngbendaaGreatDoor.It
set_option linter.unusedVariables false
set_option maxRecDepth 100000
open Go.ChangeShapes Go.WideShapes Go.ChangeAt Go.RowKit
open Ar Rg St
open BigFrame
set_option maxRecDepth 100000 in
set_option maxHeartbeats 1000000 in
theorem stable_none (w : World) :
    Calls Tryz.prog 129 #[.slice none 0 0, .int .i64 0, Sc.CMP] w fun e w' => e = .returned (.tuple #[]) ∧ w = w' := by
  unfold Sc.CMP
  go_enter Tryz.func129, Tryz.ntmps129
  go_wp2_with fail
  refine wp_loop_rounds 1 ?_
  rw [rounds_succ]
  go_wp2_with fail
  go_at_call 171
  refine (Sc.insertion_none 0 _ _ (by omega) _).mono ?_
  rintro e w1 ⟨rfl, rfl⟩
  go_wp2_with fail
  refine wp_loop_rounds 1 ?_
  rw [rounds_succ]
  go_wp2
  exact ⟨rfl, _, results_none rfl _ _ _, rfl, rfl⟩
theorem sort_none (w : World) :
    Calls Tryz.prog 83 #[.slice none 0 0, Sc.CMP] w fun e w' => e = .returned (.tuple #[]) ∧ w = w' := by
  have HC := Lib.hid (stable_none w)
  unfold Sc.CMP at *
  go_enter Tryz.func83, Tryz.ntmps83
  go_wp2_with fail
  go_at_call 129
  refine HC.out.mono ?_
  rintro e w1 ⟨rfl, rfl⟩
  go_wp2
  exact ⟨rfl, _, results_none rfl _ _ _, rfl, rfl⟩
/-- what the sort leaves: a slice that was made, by key, of each key the same -/
def SortedTo (C : List Ch) (w0 : World) (v : Value) (w' : World) : Prop := ∃ (A : Option Addr) (c : Nat) (S : List Ch), v = .slice A C.length c ∧ S.length = C.length ∧ Srt Sc.key lt S ∧ Sm Sc.key C S ∧ Ls Sc.enc 3 w' w'.heap.size A S ∧ Below w0.heap.size w0 w'
theorem sorted_any (C : List Ch) (w0 w : World) (v : Value) (hM : MkC w0 w v C) (hlen : C.length ≤ 1099511627776) :
    Calls Tryz.prog 83 #[v, Sc.CMP] w fun e w' => e = .returned (.tuple #[]) ∧ SortedTo C w0 v w' := by
  rcases hM.arr Sc.enc_len with ⟨rfl, rfl⟩ | ⟨g, c, rfl, hc, hcm, hg, hlt, hA⟩
  · refine (sort_none w).mono fun e w' h => ?_
    obtain ⟨h1, rfl⟩ := h
    exact ⟨h1, none, 0, [], rfl, rfl, Srt.nil, Sm.refl _, Ls.nil, hM.2⟩
  · refine (Sc.sort_any C g c C.length rfl hc (by omega) w hA).mono fun e w' h => ?_
    obtain ⟨h1, S, h2, h3, h4, h5, h6⟩ := h
    refine ⟨h1, some ⟨g, 0, none⟩, c, S, rfl, h3, h4, h5, Ls.of_arr h2 (Nat.lt_of_lt_of_le hlt h6.size), hM.2.grown h6 hM.2.size ?_⟩
    intro q hq
    cases hq
    exact hg
theorem lasts_len : ∀ S : List Ch, (lasts S).length ≤ S.length
  | [] => Nat.le_refl _
  | [c] => by simp [lasts]
  | c :: d :: r => by
    have ih := lasts_len (d :: r)
    rw [lasts, List.length_append]
    have : (if ckey d = ckey c then [] else [c]).length ≤ 1 := by split <;> simp
    simp only [List.length_cons] at ih ⊢
    omega
def AtL (S : List Ch) (i : Nat) (O : List Ch) : Prop := O ++ lasts (S.drop i) = lasts S
theorem AtL.le {S O : List Ch} {i : Nat} (h : AtL S i O) : O.length ≤ S.length := by
  have := congrArg List.length h
  rw [List.length_append] at this
  have := lasts_len S
  omega
theorem AtL.put_last {S O : List Ch} {i : Nat} {x : Ch} (h : AtL S i O) (hx : S[i]? = some x) (hl : i + 1 = S.length) : AtL S (i + 1) (O ++ [x]) := by
  unfold AtL at h ⊢
  rw [← h, drop_atC hx, List.drop_eq_nil_of_le (by omega)]
  simp [lasts]
theorem AtL.put {S O : List Ch} {i : Nat} {x y : Ch} (h : AtL S i O) (hx : S[i]? = some x) (hy : S[i + 1]? = some y) (hk : ckey y ≠ ckey x) : AtL S (i + 1) (O ++ [x]) := by
  unfold AtL at h ⊢
  rw [← h, drop_atC hx, drop_atC hy, lasts, if_neg hk, List.append_assoc]
theorem AtL.pass {S O : List Ch} {i : Nat} {x y : Ch} (h : AtL S i O) (hx : S[i]? = some x) (hy : S[i + 1]? = some y) (hk : ckey y = ckey x) : AtL S (i + 1) O := by
  unfold AtL at h ⊢
  rw [← h, drop_atC hx, drop_atC hy, lasts, if_pos hk, List.nil_append]
theorem AtL.done {S O : List Ch} {i : Nat} (h : AtL S i O) (hi : S.length ≤ i) : O = lasts S := by
  unfold AtL at h
  rw [List.drop_eq_nil_of_le hi] at h
  rw [← h]; simp [lasts]
set_option maxRecDepth 100000 in
set_option maxHeartbeats 1000000 in
theorem lastOfEach_any (C : List Ch) (A : Option Addr) (n c B : Nat) (hn : n = C.length) (hlen : n ≤ 1099511627776) (w : World) (hB : B ≤ w.heap.size) (hC : Ls Sc.enc 3 w B A C) :
    Calls Tryz.prog 44 #[.slice A n c] w fun e w' => ∃ v S, e = .returned v ∧ Srt Sc.key lt S ∧ Sm Sc.key C S ∧ S.length = n ∧ MkC w w' v (lasts S) := by
  have HN := Lib.hid hn
  have HC := Lib.hid hC
  clear hn hC
  go_enter Tryz.func44, Tryz.ntmps44
  go_wp2_with (at_builtin; refine catC (Mk.nil (Below.refl _ _)) C A n c HN.out HC.out (by simp; omega) rfl _ _ rfl rfl rfl ?_; intro v1 w1 hM1 hG1; have HM1 := Lib.hid hM1; clear hM1 hG1)
  go_at_call 83
  refine (sorted_any C w w1 v1 HM1.out (by rw [← HN.out]; exact hlen)).mono ?_
  rintro e w2 ⟨rfl, hs⟩
  obtain ⟨A2, c2, S, hv1, hSl, hSs, hSm, hSL, hSb⟩ := hs
  have HS := Lib.hid (And.intro hSs hSm)
  have HSL := Lib.hid hSL
  have HSB := Lib.hid hSb
  have HSN := Lib.hid (show n = S.length by rw [hSl]; exact HN.out)
  rw [← HN.out] at hv1
  clear hSs hSm hSL hSb hSl HM1
  subst hv1
  go_wp2_with fail
  go_loopw [4, 13] (fun ov v wr => ∃ (i : Nat) (O : List Ch), i ≤ n ∧ v = .int .i64 i ∧ Hid (AtL S i O) ∧ Hid (MkC w2 wr ov O)) (fun _ v _ => n - (intOf v).toNat)
  case atStart => exact ⟨0, [], Nat.zero_le _, by go_num, rfl, Mk.nil (Below.refl _ _)⟩
  case round =>
    obtain ⟨i, O, hi, rfl, hat, hm⟩ := hrel
    by_cases hlt : i < n
    · obtain ⟨x, hx⟩ : ∃ x, S[i]? = some x := ⟨_, List.getElem?_eq_getElem (by rw [← HSN.out]; exact hlt)⟩
      have hL := HSL.out.below (Hid.out hm).2
      obtain ⟨b, o, hAe, hb, hr⟩ := hL i x hx
      have hbs : b < wr.heap.size := Nat.lt_of_lt_of_le hb (Hid.out hm).2.size
      have hc0 : wr.cell? ⟨b, o + i * 3, none⟩ = some (.string x.k) := hr 0 _ rfl
      have hc1 : wr.cell? ⟨b, o + i * 3 + 1, none⟩ = some (.bool x.h) := hr 1 _ rfl
      have hc2 : wr.cell? ⟨b, o + i * 3 + 2, none⟩ = some (.string x.v) := hr 2 _ rfl
      have HL := Lib.hid hL
      clear hL hr
      subst hAe
      have HM := Lib.hid (show MkC w2 (wr.alloc (.cells #[.string x.k, .bool x.h, .string x.v] 41)) _ O from (Hid.out hm).alloc _)
      have hd0 : (wr.alloc (.cells #[.string x.k, .bool x.h, .string x.v] 41)).cell? ⟨wr.heap.size, 0, none⟩ = some (.string x.k) := by simp
      have hd1 : (wr.alloc (.cells #[.string x.k, .bool x.h, .string x.v] 41)).cell? ⟨wr.heap.size, 1, none⟩ = some (.bool x.h) := by simp
      have hd2 : (wr.alloc (.cells #[.string x.k, .bool x.h, .string x.v] 41)).cell? ⟨wr.heap.size, 2, none⟩ = some (.string x.v) := by simp
      have hol : O.length ≤ n := by have := (Hid.out hat).le; rw [← HSN.out] at this; exact this
      by_cases hl : i + 1 = n
      · have hq : (((i : Int) + 1) == (n : Int)) = true := by rw [beq_iff_eq]; omega
        have HA := Lib.hid ((Hid.out hat).put_last hx (by rw [← HSN.out]; exact hl))
        clear hat hx hl
        go_wp2_with fail
        generalize wr.alloc _ = W1 at *
        go_big_quiet (fail)
        have HM2 := Lib.hid (HM.out.drewN nq)
        clear HM hm
        go_wp2_with (at_builtin; refine catC (HM2.out.alloc _) [x] _ 1 1 rfl (Ls.new _ x _ _ (Nat.lt_succ_self _)) (by omega) rfl _ _ rfl rfl rfl ?_; intro v3 w3 hM3 hG3; have HM3 := Lib.hid hM3; clear hM3 hG3)
        exact ⟨⟨i + 1, O ++ [x], by omega, by go_num, HA.out, HM3.out⟩, by simp [intOf] <;> omega⟩
      · obtain ⟨j, hj⟩ : ∃ j, i + 1 = j := ⟨_, rfl⟩
        have hj1 : (i : Int) + 1 = (j : Int) := by omega
        have hj3 : (j : Int) < (n : Int) := by omega
        have hq : ((j : Int) == (n : Int)) = false := by rw [beq_eq_false_iff_ne]; omega
        obtain ⟨y, hy⟩ : ∃ y, S[j]? = some y := ⟨_, List.getElem?_eq_getElem (by rw [← HSN.out]; omega)⟩
        obtain ⟨b2, o2, hAe, hb2, hr⟩ := HL.out j y hy
        cases hAe
        have hcy : (wr.alloc (.cells #[.string x.k, .bool x.h, .string x.v] 41)).cell? ⟨b, o + j * 3, none⟩ = some (.string y.k) := by
          rw [World.cell?_alloc_lt _ _ _ hbs]
          exact hr 0 _ rfl
        clear hr
        rw [← hj] at hy
        by_cases hk : ckey y = ckey x
        · have he : (y.k.toList == x.k.toList) = true := by rw [str_eq]; exact decide_eq_true hk
          have HA := Lib.hid ((Hid.out hat).pass hx hy hk)
          rw [hj] at HA
          clear hat hx hy hk hl
          go_wp2_with fail
          generalize wr.alloc _ = W1 at *
          go_big_quiet (fail)
          have HM2 := Lib.hid (HM.out.drewN nq)
          clear HM hm
          go_wp2
          exact ⟨⟨j, O, by omega, rfl, HA.out, HM2.out⟩, by simp [intOf] <;> omega⟩
        · have he : (y.k.toList == x.k.toList) = false := by rw [str_eq]; exact decide_eq_false hk
          have HA := Lib.hid ((Hid.out hat).put hx hy hk)
          rw [hj] at HA
          clear hat hx hy hk hl
          go_wp2_with fail
          generalize wr.alloc _ = W1 at *
          go_big_quiet (fail)
          have HM2 := Lib.hid (HM.out.drewN nq)
          clear HM hm
          go_wp2_with (at_builtin; refine catC (HM2.out.alloc _) [x] _ 1 1 rfl (Ls.new _ x _ _ (Nat.lt_succ_self _)) (by omega) rfl _ _ rfl rfl rfl ?_; intro v3 w3 hM3 hG3; have HM3 := Lib.hid hM3; clear hM3 hG3)
          exact ⟨⟨j, O ++ [x], by omega, rfl, HA.out, HM3.out⟩, by simp [intOf] <;> omega⟩
    · have HO := Lib.hid ((Hid.out hat).done (by rw [← HSN.out]; omega))
      have HM := Lib.hid ((Hid.out hm).since HSB.out)
      clear hat hm
      go_wp2
      go_ret
      exact ⟨_, S, rfl, HS.out.1, HS.out.2, HSN.out.symm, by rw [← HO.out]; exact HM.out⟩
end Go.Proofs.YtjkmfonngbendaaGreatDoor.It
/- Contracts of package item's there, apart, Diff and Apply. -/
namespace Go.Proofs.YtjkmfonngbendaaGreatDoor.It
set_option linter.unusedVariables false
set_option maxRecDepth 100000
open Go.ChangeShapes Go.WideShapes Go.ChangeAt Go.RowKit
open Ar Rg St
open BigFrame
theorem there_any (x : Itm) (w : World) :
    Calls Tryz.prog 140 #[.agg #[.string x.k, .string x.v]] w fun e w' => e = .returned (.agg #[.string x.k, .bool true, .string x.v]) ∧ Below w.heap.size w w' := by
  go_enter Tryz.func140, Tryz.ntmps140
  go_wp2
  exact bodyPost_ret (v := .agg #[.string x.k, .bool true, .string x.v]) (by simp [results, Tryz.results140, go_sem]) rfl ⟨rfl, ((Below.refl _ _).alloc (Nat.le_refl _) _).alloc (by simp) _⟩
/-- what has been put, what is left of the two -/
def AtD (A B : List Itm) (i j : Nat) (O : List Ch) : Prop := O ++ dif (A.drop i) (B.drop j) = dif A B ∧ O.length ≤ i + j
theorem AtD.left {A B : List Itm} {i j : Nat} {O : List Ch} {a : Itm} (h : AtD A B i j O) (ha : A[i]? = some a) (hj : B.length ≤ j) : AtD A B (i + 1) j (O ++ [gone a]) := by
  obtain ⟨h1, h2⟩ := h
  refine ⟨?_, by simp; omega⟩
  rw [← h1, drop_at ha, List.drop_eq_nil_of_le hj, dif_left, List.append_assoc]; rfl
theorem AtD.ahead {A B : List Itm} {i j : Nat} {O : List Ch} {a b : Itm} (h : AtD A B i j O) (ha : A[i]? = some a) (hb : B[j]? = some b) (hl : lt (key a) (key b) = true) : AtD A B (i + 1) j (O ++ [gone a]) := by
  obtain ⟨h1, h2⟩ := h
  refine ⟨?_, by simp; omega⟩
  rw [← h1, drop_at ha, drop_at hb, dif_lt _ _ hl, List.append_assoc]; rfl
theorem AtD.right {A B : List Itm} {i j : Nat} {O : List Ch} {b : Itm} (h : AtD A B i j O) (hi : A.length ≤ i) (hb : B[j]? = some b) : AtD A B i (j + 1) (O ++ [there b]) := by
  obtain ⟨h1, h2⟩ := h
  refine ⟨?_, by simp; omega⟩
  rw [← h1, List.drop_eq_nil_of_le hi, drop_at hb, dif_right, List.append_assoc]; rfl
theorem AtD.behind {A B : List Itm} {i j : Nat} {O : List Ch} {a b : Itm} (h : AtD A B i j O) (ha : A[i]? = some a) (hb : B[j]? = some b) (hl : lt (key b) (key a) = true) : AtD A B i (j + 1) (O ++ [there b]) := by
  obtain ⟨h1, h2⟩ := h
  refine ⟨?_, by simp; omega⟩
  rw [← h1, drop_at ha, drop_at hb, dif_gt _ _ hl, List.append_assoc]; rfl
theorem AtD.same {A B : List Itm} {i j : Nat} {O : List Ch} {a b : Itm} (h : AtD A B i j O) (ha : A[i]? = some a) (hb : B[j]? = some b) (hk : key a = key b) (hv : a.v.data.toList = b.v.data.toList) : AtD A B (i + 1) (j + 1) O := by
  obtain ⟨h1, h2⟩ := h
  refine ⟨?_, by omega⟩
  rw [← h1, drop_at ha, drop_at hb, dif_same _ _ hk hv]
theorem AtD.other {A B : List Itm} {i j : Nat} {O : List Ch} {a b : Itm} (h : AtD A B i j O) (ha : A[i]? = some a) (hb : B[j]? = some b) (hk : key a = key b) (hv : a.v.data.toList ≠ b.v.data.toList) : AtD A B (i + 1) (j + 1) (O ++ [there b]) := by
  obtain ⟨h1, h2⟩ := h
  refine ⟨?_, by simp; omega⟩
  rw [← h1, drop_at ha, drop_at hb, dif_other _ _ hk hv, List.append_assoc]; rfl
theorem AtD.done {A B : List Itm} {i j : Nat} {O : List Ch} (h : AtD A B i j O) (hi : A.length ≤ i) (hj : B.length ≤ j) : O = dif A B := by
  have h1 := h.1
  rw [List.drop_eq_nil_of_le hi, List.drop_eq_nil_of_le hj, dif_nil [], List.append_nil] at h1
  exact h1
theorem O_tri {a b : List UInt8} (h : lt a b = false) (h' : lt b a = false) : a = b := O.tri _ _ h h'
theorem bl_of {a b : ByteArray} {q : Bool} (h : lt a.data.toList b.data.toList = q) : Op.bytesLess a.toList b.toList = q := by
  rw [ByteArray.toList_eq, ByteArray.toList_eq]; exact h
set_option maxRecDepth 100000 in
set_option maxHeartbeats 3000000 in
theorem apart_any (X Y : List Itm) (A A' : Option Addr) (n c m c' B B' : Nat) (hn : n = X.length) (hm : m = Y.length) (hlen : n ≤ 1099511627776) (hlen' : m ≤ 1099511627776) (w : World) (hB : B ≤ w.heap.size) (hB' : B' ≤ w.heap.size) (hX : Ls enc 2 w B A X) (hY : Ls enc 2 w B' A' Y) :
    Calls Tryz.prog 90 #[.slice A n c, .slice A' m c'] w fun e w' => ∃ v, e = .returned v ∧ MkC w w' v (dif X Y) := by
  have HN := Lib.hid hn
  have HN' := Lib.hid hm
  have HX := Lib.hid hX
  have HY := Lib.hid hY
  clear hn hm hX hY
  go_enter Tryz.func90, Tryz.ntmps90
  go_wp2_with fail
  go_step3
  go_wp2_with fail
  go_step3
  go_wp2_with fail
  go_loopw [5, 6, 7] (fun ov iv jv wr => ∃ (i j : Nat) (O : List Ch), i ≤ n ∧ j ≤ m ∧ iv = .int .i64 i ∧ jv = .int .i64 j ∧ Hid (AtD X Y i j O) ∧ Hid (MkC w wr ov O)) (fun _ iv jv _ => (n + m) - ((intOf iv).toNat + (intOf jv).toNat))
  case atStart => exact ⟨0, 0, [], Nat.zero_le _, Nat.zero_le _, by go_num, by go_num, ⟨rfl, Nat.le_refl _⟩, Mk.nil (Below.refl _ _)⟩
  case round =>
    obtain ⟨i, j, O, hi, hj, rfl, rfl, hat, hmk⟩ := hrel
    have hol : O.length ≤ i + j := (Hid.out hat).2
    have HM := hmk
    by_cases hin : i < n
    · have q1 : ((i : Int) == (n : Int)) = false := by rw [beq_eq_false_iff_ne]; omega
      have q2 : decide ((i : Int) < (n : Int)) = true := by rw [decide_eq_true_iff]; omega
      obtain ⟨a, ha⟩ : ∃ a, X[i]? = some a := ⟨_, List.getElem?_eq_getElem (by rw [← HN.out]; exact hin)⟩
      obtain ⟨b, o, hAe, hb, hr⟩ := (HX.out.below ((Hid.out hmk).2.mono hB)) i a ha
      have ha0 : wr.cell? ⟨b, o + i * 2, none⟩ = some (.string a.k) := hr 0 _ rfl
      have ha1 : wr.cell? ⟨b, o + i * 2 + 1, none⟩ = some (.string a.v) := hr 1 _ rfl
      clear hr
      subst hAe
      by_cases hjm : j < m
      · have q3 : ((j : Int) == (m : Int)) = false := by rw [beq_eq_false_iff_ne]; omega
        obtain ⟨b2, hb2⟩ : ∃ b2, Y[j]? = some b2 := ⟨_, List.getElem?_eq_getElem (by rw [← HN'.out]; exact hjm)⟩
        obtain ⟨b', o', hAe, hb', hr⟩ := (HY.out.below ((Hid.out hmk).2.mono hB')) j b2 hb2
        have hb0 : wr.cell? ⟨b', o' + j * 2, none⟩ = some (.string b2.k) := hr 0 _ rfl
        have hb1 : wr.cell? ⟨b', o' + j * 2 + 1, none⟩ = some (.string b2.v) := hr 1 _ rfl
        clear hr
        subst hAe
        by_cases h1 : lt (key a) (key b2) = true
        · have HAT := Lib.hid ((Hid.out hat).ahead ha hb2 h1)
          have q4 := bl_of h1
          clear h1 hat ha hb2 hmk
          go_wp2_with fail
          go_big_quiet (fail)
          have HM2 := Lib.hid (HM.out.drewN nq)
          clear HM
          have ha0' : (wr.drewN nq).cell? ⟨b, o + i * 2, none⟩ = some (.string a.k) := ha0
          clear ha0
          have ha0 := ha0'
          clear ha0'
          have ha1' : (wr.drewN nq).cell? ⟨b, o + i * 2 + 1, none⟩ = some (.string a.v) := ha1
          clear ha1
          have ha1 := ha1'
          clear ha1'
          have hb0' : (wr.drewN nq).cell? ⟨b', o' + j * 2, none⟩ = some (.string b2.k) := hb0
          clear hb0
          have hb0 := hb0'
          clear hb0'
          have hb1' : (wr.drewN nq).cell? ⟨b', o' + j * 2 + 1, none⟩ = some (.string b2.v) := hb1
          clear hb1
          have hb1 := hb1'
          clear hb1'
          generalize World.drewN wr nq = W2 at *
          go_wp2_with (at_builtin; refine catC (HM2.out.alloc _) [gone a] _ 1 1 rfl (Ls.new _ (gone a) _ _ (Nat.lt_succ_self _)) (by omega) rfl _ _ rfl rfl rfl ?_; intro v3 w3 hM3 hG3; have HM3 := Lib.hid hM3; clear hM3 hG3)
          exact ⟨⟨i + 1, j, O ++ [gone a], by omega, by omega, by go_num, by go_num, HAT.out, HM3.out⟩, by simp [intOf] <;> omega⟩
        · have h1 : lt (key a) (key b2) = false := by simpa using h1
          have q4 := bl_of h1
          by_cases h2 : lt (key b2) (key a) = true
          · have HAT := Lib.hid ((Hid.out hat).behind ha hb2 h2)
            have q5 := bl_of h2
            clear h1 h2 hat ha hb2 hmk
            go_wp2_with fail
            go_big_quiet (fail)
            have HM2 := Lib.hid (HM.out.drewN nq)
            clear HM
            have ha0' : (wr.drewN nq).cell? ⟨b, o + i * 2, none⟩ = some (.string a.k) := ha0
            clear ha0
            have ha0 := ha0'
            clear ha0'
            have ha1' : (wr.drewN nq).cell? ⟨b, o + i * 2 + 1, none⟩ = some (.string a.v) := ha1
            clear ha1
            have ha1 := ha1'
            clear ha1'
            have hb0' : (wr.drewN nq).cell? ⟨b', o' + j * 2, none⟩ = some (.string b2.k) := hb0
            clear hb0
            have hb0 := hb0'
            clear hb0'
            have hb1' : (wr.drewN nq).cell? ⟨b', o' + j * 2 + 1, none⟩ = some (.string b2.v) := hb1
            clear hb1
            have hb1 := hb1'
            clear hb1'
            generalize World.drewN wr nq = W2 at *
            go_wp2_with fail
            go_big_quiet (fail)
            have HM4 := Lib.hid (HM2.out.drewN nq)
            clear HM2
            have ha0' : (W2.drewN nq).cell? ⟨b, o + i * 2, none⟩ = some (.string a.k) := ha0
            clear ha0
            have ha0 := ha0'
            clear ha0'
            have ha1' : (W2.drewN nq).cell? ⟨b, o + i * 2 + 1, none⟩ = some (.string a.v) := ha1
            clear ha1
            have ha1 := ha1'
            clear ha1'
            have hb0' : (W2.drewN nq).cell? ⟨b', o' + j * 2, none⟩ = some (.string b2.k) := hb0
            clear hb0
            have hb0 := hb0'
            clear hb0'
            have hb1' : (W2.drewN nq).cell? ⟨b', o' + j * 2 + 1, none⟩ = some (.string b2.v) := hb1
            clear hb1
            have hb1 := hb1'
            clear hb1'
            generalize World.drewN W2 nq = W3 at *
            go_wp2_with (first | (go_at_call 140; refine (there_any b2 _).mono ?_; rintro e wt ⟨rfl, hbt⟩; have HMT := Lib.hid (HM4.out.go hbt); clear hbt) | (at_builtin; refine catC (HMT.out.alloc _) [there b2] _ 1 1 rfl (Ls.new _ (there b2) _ _ (Nat.lt_succ_self _)) (by omega) rfl _ _ rfl rfl rfl ?_; intro v3 w3 hM3 hG3; have HM3 := Lib.hid hM3; clear hM3 hG3))
            exact ⟨⟨i, j + 1, O ++ [there b2], by omega, by omega, by go_num, by go_num, HAT.out, HM3.out⟩, by simp [intOf] <;> omega⟩
          · have h2 : lt (key b2) (key a) = false := by simpa using h2
            have q5 := bl_of h2
            have hk : key a = key b2 := O_tri h1 h2
            have q6 : (a.k.toList == b2.k.toList) = true := by rw [str_eq]; exact decide_eq_true hk
            by_cases hv : a.v.data.toList = b2.v.data.toList
            · have q7 : (a.v.toList == b2.v.toList) = true := by rw [str_eq]; exact decide_eq_true hv
              have HAT := Lib.hid ((Hid.out hat).same ha hb2 hk hv)
              clear h1 h2 hk hv hat ha hb2 hmk
              go_wp2_with fail
              go_big_quiet (fail)
              have HM2 := Lib.hid (HM.out.drewN nq)
              clear HM
              have ha0' : (wr.drewN nq).cell? ⟨b, o + i * 2, none⟩ = some (.string a.k) := ha0
              clear ha0
              have ha0 := ha0'
              clear ha0'
              have ha1' : (wr.drewN nq).cell? ⟨b, o + i * 2 + 1, none⟩ = some (.string a.v) := ha1
              clear ha1
              have ha1 := ha1'
              clear ha1'
              have hb0' : (wr.drewN nq).cell? ⟨b', o' + j * 2, none⟩ = some (.string b2.k) := hb0
              clear hb0
              have hb0 := hb0'
              clear hb0'
              have hb1' : (wr.drewN nq).cell? ⟨b', o' + j * 2 + 1, none⟩ = some (.string b2.v) := hb1
              clear hb1
              have hb1 := hb1'
              clear hb1'
              generalize World.drewN wr nq = W2 at *
              go_wp2_with fail
              go_big_quiet (fail)
              have HM4 := Lib.hid (HM2.out.drewN nq)
              clear HM2
              have ha0' : (W2.drewN nq).cell? ⟨b, o + i * 2, none⟩ = some (.string a.k) := ha0
              clear ha0
              have ha0 := ha0'
              clear ha0'
              have ha1' : (W2.drewN nq).cell? ⟨b, o + i * 2 + 1, none⟩ = some (.string a.v) := ha1
              clear ha1
              have ha1 := ha1'
              clear ha1'
              have hb0' : (W2.drewN nq).cell? ⟨b', o' + j * 2, none⟩ = some (.string b2.k) := hb0
              clear hb0
              have hb0 := hb0'
              clear hb0'
              have hb1' : (W2.drewN nq).cell? ⟨b', o' + j * 2 + 1, none⟩ = some (.string b2.v) := hb1
              clear hb1
              have hb1 := hb1'
              clear hb1'
              generalize World.drewN W2 nq = W3 at *
              go_wp2_with fail
              go_big_quiet (fail)
              have HM3 := Lib.hid (HM4.out.drewN nq)
              clear HM4
              have ha0' : (W3.drewN nq).cell? ⟨b, o + i * 2, none⟩ = some (.string a.k) := ha0
              clear ha0
              have ha0 := ha0'
              clear ha0'
              have ha1' : (W3.drewN nq).cell? ⟨b, o + i * 2 + 1, none⟩ = some (.string a.v) := ha1
              clear ha1
              have ha1 := ha1'
              clear ha1'
              have hb0' : (W3.drewN nq).cell? ⟨b', o' + j * 2, none⟩ = some (.string b2.k) := hb0
              clear hb0
              have hb0 := hb0'
              clear hb0'
              have hb1' : (W3.drewN nq).cell? ⟨b', o' + j * 2 + 1, none⟩ = some (.string b2.v) := hb1
              clear hb1
              have hb1 := hb1'
              clear hb1'
              generalize World.drewN W3 nq = W4 at *
              go_wp2_with fail
              exact ⟨⟨i + 1, j + 1, O, by omega, by omega, by go_num, by go_num, HAT.out, HM3.out⟩, by simp [intOf] <;> omega⟩
            · have q7 : (a.v.toList == b2.v.toList) = false := by rw [str_eq]; exact decide_eq_false hv
              have HAT := Lib.hid ((Hid.out hat).other ha hb2 hk hv)
              clear h1 h2 hk hv hat ha hb2 hmk
              go_wp2_with fail
              go_big_quiet (fail)
              have HM2 := Lib.hid (HM.out.drewN nq)
              clear HM
              have ha0' : (wr.drewN nq).cell? ⟨b, o + i * 2, none⟩ = some (.string a.k) := ha0
              clear ha0
              have ha0 := ha0'
              clear ha0'
              have ha1' : (wr.drewN nq).cell? ⟨b, o + i * 2 + 1, none⟩ = some (.string a.v) := ha1
              clear ha1
              have ha1 := ha1'
              clear ha1'
              have hb0' : (wr.drewN nq).cell? ⟨b', o' + j * 2, none⟩ = some (.string b2.k) := hb0
              clear hb0
              have hb0 := hb0'
              clear hb0'
              have hb1' : (wr.drewN nq).cell? ⟨b', o' + j * 2 + 1, none⟩ = some (.string b2.v) := hb1
              clear hb1
              have hb1 := hb1'
              clear hb1'
              generalize World.drewN wr nq = W2 at *
              go_wp2_with fail
              go_big_quiet (fail)
              have HM4 := Lib.hid (HM2.out.drewN nq)
              clear HM2
              have ha0' : (W2.drewN nq).cell? ⟨b, o + i * 2, none⟩ = some (.string a.k) := ha0
              clear ha0
              have ha0 := ha0'
              clear ha0'
              have ha1' : (W2.drewN nq).cell? ⟨b, o + i * 2 + 1, none⟩ = some (.string a.v) := ha1
              clear ha1
              have ha1 := ha1'
              clear ha1'
              have hb0' : (W2.drewN nq).cell? ⟨b', o' + j * 2, none⟩ = some (.string b2.k) := hb0
              clear hb0
              have hb0 := hb0'
              clear hb0'
              have hb1' : (W2.drewN nq).cell? ⟨b', o' + j * 2 + 1, none⟩ = some (.string b2.v) := hb1
              clear hb1
              have hb1 := hb1'
              clear hb1'
              generalize World.drewN W2 nq = W3 at *
              go_wp2_with fail
              go_big_quiet (fail)
              have HM5 := Lib.hid (HM4.out.drewN nq)
              clear HM4
              have ha0' : (W3.drewN nq).cell? ⟨b, o + i * 2, none⟩ = some (.string a.k) := ha0
              clear ha0
              have ha0 := ha0'
              clear ha0'
              have ha1' : (W3.drewN nq).cell? ⟨b, o + i * 2 + 1, none⟩ = some (.string a.v) := ha1
              clear ha1
              have ha1 := ha1'
              clear ha1'
              have hb0' : (W3.drewN nq).cell? ⟨b', o' + j * 2, none⟩ = some (.string b2.k) := hb0
              clear hb0
              have hb0 := hb0'
              clear hb0'
              have hb1' : (W3.drewN nq).cell? ⟨b', o' + j * 2 + 1, none⟩ = some (.string b2.v) := hb1
              clear hb1
              have hb1 := hb1'
              clear hb1'
              generalize World.drewN W3 nq = W4 at *
              go_wp2_with (first | (go_at_call 140; refine (there_any b2 _).mono ?_; rintro e wt ⟨rfl, hbt⟩; have HMT := Lib.hid (HM5.out.go hbt); clear hbt) | (at_builtin; refine catC (HMT.out.alloc _) [there b2] _ 1 1 rfl (Ls.new _ (there b2) _ _ (Nat.lt_succ_self _)) (by omega) rfl _ _ rfl rfl rfl ?_; intro v3 w3 hM3 hG3; have HM3 := Lib.hid hM3; clear hM3 hG3))
              exact ⟨⟨i + 1, j + 1, O ++ [there b2], by omega, by omega, by go_num, by go_num, HAT.out, HM3.out⟩, by simp [intOf] <;> omega⟩
      · have q3 : ((j : Int) == (m : Int)) = true := by rw [beq_iff_eq]; omega
        have HAT := Lib.hid ((Hid.out hat).left ha (by rw [← HN'.out]; omega))
        clear hat ha hmk
        go_wp2_with fail
        go_big_quiet (fail)
        have HM2 := Lib.hid (HM.out.drewN nq)
        clear HM
        have ha0' : (wr.drewN nq).cell? ⟨b, o + i * 2, none⟩ = some (.string a.k) := ha0
        clear ha0
        have ha0 := ha0'
        clear ha0'
        have ha1' : (wr.drewN nq).cell? ⟨b, o + i * 2 + 1, none⟩ = some (.string a.v) := ha1
        clear ha1
        have ha1 := ha1'
        clear ha1'
        generalize World.drewN wr nq = W2 at *
        go_wp2_with (at_builtin; refine catC (HM2.out.alloc _) [gone a] _ 1 1 rfl (Ls.new _ (gone a) _ _ (Nat.lt_succ_self _)) (by omega) rfl _ _ rfl rfl rfl ?_; intro v3 w3 hM3 hG3; have HM3 := Lib.hid hM3; clear hM3 hG3)
        exact ⟨⟨i + 1, j, O ++ [gone a], by omega, by omega, by go_num, by go_num, HAT.out, HM3.out⟩, by simp [intOf] <;> omega⟩
    · have q1 : ((i : Int) == (n : Int)) = true := by rw [beq_iff_eq]; omega
      have q2 : decide ((i : Int) < (n : Int)) = false := by rw [decide_eq_false_iff_not]; omega
      by_cases hjm : j < m
      · have q3 : ((j : Int) == (m : Int)) = false := by rw [beq_eq_false_iff_ne]; omega
        obtain ⟨b2, hb2⟩ : ∃ b2, Y[j]? = some b2 := ⟨_, List.getElem?_eq_getElem (by rw [← HN'.out]; exact hjm)⟩
        obtain ⟨b', o', hAe, hb', hr⟩ := (HY.out.below ((Hid.out hmk).2.mono hB')) j b2 hb2
        have hb0 : wr.cell? ⟨b', o' + j * 2, none⟩ = some (.string b2.k) := hr 0 _ rfl
        have hb1 : wr.cell? ⟨b', o' + j * 2 + 1, none⟩ = some (.string b2.v) := hr 1 _ rfl
        clear hr
        subst hAe
        have HAT := Lib.hid ((Hid.out hat).right (by rw [← HN.out]; omega) hb2)
        clear hat hb2 hmk
        go_wp2_with fail
        go_big_quiet (fail)
        have HM2 := Lib.hid (HM.out.drewN nq)
        clear HM
        have hb0' : (wr.drewN nq).cell? ⟨b', o' + j * 2, none⟩ = some (.string b2.k) := hb0
        clear hb0
        have hb0 := hb0'
        clear hb0'
        have hb1' : (wr.drewN nq).cell? ⟨b', o' + j * 2 + 1, none⟩ = some (.string b2.v) := hb1
        clear hb1
        have hb1 := hb1'
        clear hb1'
        generalize World.drewN wr nq = W2 at *
        go_wp2_with fail
        go_big_quiet (fail)
        have HM4 := Lib.hid (HM2.out.drewN nq)
        clear HM2
        have hb0' : (W2.drewN nq).cell? ⟨b', o' + j * 2, none⟩ = some (.string b2.k) := hb0
        clear hb0
        have hb0 := hb0'
        clear hb0'
        have hb1' : (W2.drewN nq).cell? ⟨b', o' + j * 2 + 1, none⟩ = some (.string b2.v) := hb1
        clear hb1
        have hb1 := hb1'
        clear hb1'
        generalize World.drewN W2 nq = W3 at *
        go_wp2_with (first | (go_at_call 140; refine (there_any b2 _).mono ?_; rintro e wt ⟨rfl, hbt⟩; have HMT := Lib.hid (HM4.out.go hbt); clear hbt) | (at_builtin; refine catC (HMT.out.alloc _) [there b2] _ 1 1 rfl (Ls.new _ (there b2) _ _ (Nat.lt_succ_self _)) (by omega) rfl _ _ rfl rfl rfl ?_; intro v3 w3 hM3 hG3; have HM3 := Lib.hid hM3; clear hM3 hG3))
        exact ⟨⟨i, j + 1, O ++ [there b2], by omega, by omega, by go_num, by go_num, HAT.out, HM3.out⟩, by simp [intOf] <;> omega⟩
      · have q3 : ((j : Int) == (m : Int)) = true := by rw [beq_iff_eq]; omega
        have HO := Lib.hid ((Hid.out hat).done (by rw [← HN.out]; omega) (by rw [← HN'.out]; omega))
        clear hat
        go_wp2
        rw [Exit.noGoto_ret]
        go_ret
        exact ⟨_, rfl, by rw [← HO.out]; exact HM.out⟩
end Go.Proofs.YtjkmfonngbendaaGreatDoor.It
/- Contracts of package item's Diff and Apply. -/
namespace Go.Proofs.YtjkmfonngbendaaGreatDoor.It
set_option linter.unusedVariables false
set_option maxRecDepth 100000
open Go.ChangeShapes Go.WideShapes Go.ChangeAt Go.RowKit
open Ar Rg St
open BigFrame
set_option maxRecDepth 100000 in
set_option maxHeartbeats 1000000 in
theorem diff_any (X Y : List Itm) (A A' : Option Addr) (n c m c' B B' : Nat) (hn : n = X.length) (hm : m = Y.length) (hlen : n ≤ 1099511627776) (hlen' : m ≤ 1099511627776) (w : World) (hB : B ≤ w.heap.size) (hB' : B' ≤ w.heap.size) (hX : Ls enc 2 w B A X) (hY : Ls enc 2 w B' A' Y) :
    Calls Tryz.prog 49 #[.slice A n c, .slice A' m c'] w fun e w' => ∃ v, e = .returned (.tuple #[v, .int .i64 (er (rt X && rt Y))]) ∧ MkC w w' v (if rt X && rt Y then dif X Y else []) := by
  have HX := Lib.hid hX
  have HY := Lib.hid hY
  have HN := Lib.hid hn
  have HN' := Lib.hid hm
  have HC := Lib.hid (rightList_any X A n c B hn (by omega) w hB hX)
  clear hn hm hX hY
  cases hx : rt X
  · rw [hx] at HC
    clear hx
    go_enter Tryz.func49, Tryz.ntmps49
    go_wp2_with (go_at_call 41; refine HC.out.mono ?_; rintro e w1 ⟨rfl, hb1⟩; have HB1 := Lib.hid hb1; clear hb1)
    go_ret2
    exact ⟨_, rfl, Mk.nil HB1.out⟩
  · rw [hx] at HC
    clear hx
    cases hy : rt Y
    · go_enter Tryz.func49, Tryz.ntmps49
      go_wp2_with fail
      go_at_call 41
      refine HC.out.mono ?_
      rintro e w1 ⟨rfl, hb1⟩
      have HB1 := Lib.hid hb1
      clear hb1 HC
      go_wp2_with fail
      go_at_call 41
      refine (rightList_any Y A' m c' B' HN'.out (by omega) w1 (Nat.le_trans hB' HB1.out.size) (HY.out.below (HB1.out.mono hB'))).mono ?_
      rintro e w2 ⟨rfl, hb2⟩
      have HB2 := Lib.hid (HB1.out.trans (hb2.mono HB1.out.size))
      clear hb2 HB1
      rw [hy]
      clear hy
      go_wp2
      go_ret2
      exact ⟨_, rfl, Mk.nil HB2.out⟩
    · go_enter Tryz.func49, Tryz.ntmps49
      go_wp2_with fail
      go_at_call 41
      refine HC.out.mono ?_
      rintro e w1 ⟨rfl, hb1⟩
      have HB1 := Lib.hid hb1
      clear hb1 HC
      go_wp2_with fail
      go_at_call 41
      refine (rightList_any Y A' m c' B' HN'.out (by omega) w1 (Nat.le_trans hB' HB1.out.size) (HY.out.below (HB1.out.mono hB'))).mono ?_
      rintro e w2 ⟨rfl, hb2⟩
      have HB2 := Lib.hid (HB1.out.trans (hb2.mono HB1.out.size))
      clear hb2 HB1
      rw [hy]
      clear hy
      go_wp2_with fail
      go_at_call 90
      refine (apart_any X Y A A' n c m c' B B' HN.out HN'.out hlen hlen' w2 (Nat.le_trans hB HB2.out.size) (Nat.le_trans hB' HB2.out.size) (HX.out.below (HB2.out.mono hB)) (HY.out.below (HB2.out.mono hB'))).mono ?_
      rintro e w3 ⟨v, rfl, hM⟩
      have HM := Lib.hid (hM.since HB2.out)
      clear hM
      go_wp2
      go_ret2
      exact ⟨_, rfl, HM.out⟩
set_option maxRecDepth 100000 in
set_option maxHeartbeats 1000000 in
theorem apply_any (D : List Itm) (C : List Ch) (A A' : Option Addr) (n c m c' B B' : Nat) (hn : n = D.length) (hc : n ≤ c) (hcm : c ≤ maxLen) (hm : m = C.length) (hlen : n ≤ 1099511627776) (hlen' : m ≤ 1099511627776) (w : World) (hB : B ≤ w.heap.size) (hB' : B' ≤ w.heap.size) (hX : Ls enc 2 w B A D) (hY : Ls Sc.enc 3 w B' A' C) :
    Calls Tryz.prog 16 #[.slice A n c, .slice A' m c'] w fun e w' => ∃ v, e = .returned (.tuple #[v, .int .i64 (er (rt D && rc C))]) ∧ MkI w w' v (if rt D && rc C then app D C else []) := by
  have HX := Lib.hid hX
  have HY := Lib.hid hY
  have HN := Lib.hid hn
  have HN' := Lib.hid hm
  have HC := Lib.hid (rightList_any D A n c B hn (by omega) w hB hX)
  clear hn hm hX hY
  cases hx : rt D
  · rw [hx] at HC
    clear hx
    go_enter Tryz.func16, Tryz.ntmps16
    go_wp2_with (go_at_call 41; refine HC.out.mono ?_; rintro e w1 ⟨rfl, hb1⟩; have HB1 := Lib.hid hb1; clear hb1)
    go_ret2
    exact ⟨_, rfl, Mk.nil HB1.out⟩
  · have HR := Lib.hid hx
    rw [hx] at HC
    clear hx
    cases hy : rc C
    · go_enter Tryz.func16, Tryz.ntmps16
      go_wp2_with fail
      go_at_call 41
      refine HC.out.mono ?_
      rintro e w1 ⟨rfl, hb1⟩
      have HB1 := Lib.hid hb1
      clear hb1 HC
      go_wp2_with fail
      go_at_call 42
      refine (rightChanges_any C A' m c' B' HN'.out (by omega) w1 (Nat.le_trans hB' HB1.out.size) (HY.out.below (HB1.out.mono hB'))).mono ?_
      rintro e w2 ⟨rfl, hb2⟩
      have HB2 := Lib.hid (HB1.out.trans (hb2.mono HB1.out.size))
      clear hb2 HB1
      rw [hy]
      clear hy
      go_wp2
      go_ret2
      exact ⟨_, rfl, Mk.nil HB2.out⟩
    · go_enter Tryz.func16, Tryz.ntmps16
      go_wp2_with fail
      go_at_call 41
      refine HC.out.mono ?_
      rintro e w1 ⟨rfl, hb1⟩
      have HB1 := Lib.hid hb1
      clear hb1 HC
      go_wp2_with fail
      go_at_call 42
      refine (rightChanges_any C A' m c' B' HN'.out (by omega) w1 (Nat.le_trans hB' HB1.out.size) (HY.out.below (HB1.out.mono hB'))).mono ?_
      rintro e w2 ⟨rfl, hb2⟩
      have HB2 := Lib.hid (HB1.out.trans (hb2.mono HB1.out.size))
      clear hb2 HB1
      rw [hy]
      clear hy
      go_wp2_with fail
      go_at_call 44
      refine (lastOfEach_any C A' m c' B' HN'.out hlen' w2 (Nat.le_trans hB' HB2.out.size) (HY.out.below (HB2.out.mono hB'))).mono ?_
      rintro e w3 ⟨v, S, rfl, hs1, hs2, hs3, hM⟩
      obtain ⟨A2, c2, hv, hc2, hcm2, hL2⟩ := hM.ls Sc.enc_len
      have HM := Lib.hid (hM.since HB2.out)
      have HS := Lib.hid (And.intro hs1 hs2)
      have HL2 := Lib.hid hL2
      have hln : (lasts S).length ≤ 1099511627776 := by have := lasts_len S; omega
      clear hM hs1 hs2 hs3 hL2
      obtain ⟨m2, hm2⟩ : ∃ m2, m2 = (lasts S).length := ⟨_, rfl⟩
      rw [← hm2] at hv hln hc2
      have HM2 := Lib.hid hm2
      subst hv
      clear hm2
      go_wp2_with fail
      go_at_call 43
      refine (changed_any D (lasts S) A A2 n c m2 c2 B _ HN.out hc hcm HM2.out hlen hln (rt_iff.1 HR.out).1 (lasts_spec S HS.out.1).1 w3 (Nat.le_trans hB HM.out.2.size) (Nat.le_refl _) (HX.out.below (HM.out.2.mono hB)) HL2.out).mono ?_
      rintro e w4 ⟨v, rfl, hM⟩
      have HM3 := Lib.hid (show MkI w w4 v (app D C) from (app_lasts (rt_iff.1 HR.out).1 HS.out.1 HS.out.2) ▸ hM.since HM.out.2)
      clear hM
      go_wp2
      go_ret2
      exact ⟨_, rfl, HM3.out⟩
end Go.Proofs.YtjkmfonngbendaaGreatDoor.It
/- How arguments are opened: slices whose elements are structs of plain cells; how the bound of a statement reaches their lengths. -/
namespace Go.Proofs.YtjkmfonngbendaaGreatDoor.Fr
set_option linter.unusedVariables false
open Go.ChangeShapes Go.WideShapes Go.RowKit Go.Deep
open Ar
theorem list_of {α : Type} {p : Nat → α → Prop} : ∀ n : Nat, (∀ i, i < n → ∃ x, p i x) → ∃ D : List α, D.length = n ∧ ∀ i x, D[i]? = some x → p i x
  | 0, _ => ⟨[], rfl, fun i x h => by simp at h⟩
  | n + 1, h => by
    obtain ⟨D, h1, h2⟩ := list_of n fun i hi => h i (by omega)
    obtain ⟨y, hy⟩ := h n (by omega)
    refine ⟨D ++ [y], by simp [h1], fun i x hx => ?_⟩
    rcases Nat.lt_or_ge i n with hlt | hge
    · rw [List.getElem?_append_left (by omega)] at hx; exact h2 i x hx
    · rw [List.getElem?_append_right (by omega), h1] at hx
      have : i = n := by
        rcases Nat.lt_or_ge n i with h3 | h3
        · rw [List.getElem?_eq_none (by simp; omega)] at hx; cases hx
        · omega
      subst this
      simp at hx; subst hx; exact hy
section
variable {H : Type} {enc : TypeId × Value → H} {P : Program} {w : World} {base : Nat} {spare : Nat → Bool} {held : Bool}
theorem open_ls {α : Type} (en : α → List Value) (k : Nat) {t e : TypeId} {fuel : Nat} {v : Value} {x : DataW H × List MemPlace} (ht : P.underlying t = some (.slice e)) (hk : P.cellsOf e = k) (hk0 : 0 < k)
    (hr : ∀ n cs y, cs.length = k → DataW.trod enc P w base spare held n e cs = some y → ∃ x : α, cs = en x) (hv : v.cells = #[v]) (h : DataW.trod enc P w base spare held fuel t v.cells.toList = some x) :
    (v = .slice none 0 0 ∧ x.1 = .nil) ∨ ∃ A n c m D, v = .slice A n c ∧ n = List.length D ∧ n ≤ c ∧ c ≤ maxLen ∧ Ls en k w w.heap.size A D ∧ ∃ E F, x.1 = .slice E F ∧ E.length = n ∧ E.length + F.length = m := by
  rw [hv] at h
  rcases open_slice ht h with ⟨h1, h2⟩ | ⟨a, len, cap, m, n, D, Pl, hcs, hb, hl, hm, hmm, hx, hi⟩
  · left; simp at h1; exact ⟨h1, by rw [h2]⟩
  · right
    have hlm : len ≤ m := by rw [hmm]; split <;> omega
    simp at hcs
    rw [hk] at hi
    obtain ⟨L, hL1, hL2⟩ := list_of (α := α) (p := fun i x => ∃ b o, (some a : Option Addr) = some ⟨b, o, none⟩ ∧ b < w.heap.size ∧ w.rangeAt b (o + i * k) (en x)) len fun i hil => by
      have hspot : a.spot = none := by
        obtain ⟨cs', h1, h2⟩ := hi 0 (by omega)
        obtain ⟨_, hlen, hcell⟩ := World.cells?_some h1
        have hc0 := (hcell 0 hk0).trans (List.getElem?_eq_getElem (by omega))
        rw [add_add, Nat.zero_mul] at hc0
        have := World.cell?_spot hc0
        simpa [Addr.add] using this
      obtain ⟨cs', h1, h2⟩ := hi i (by omega)
      obtain ⟨_, hlen, hcell⟩ := World.cells?_some h1
      obtain ⟨x, rfl⟩ := hr _ _ _ hlen h2
      have hc0 := (hcell 0 hk0).trans (List.getElem?_eq_getElem (by omega))
      rw [add_add] at hc0
      obtain ⟨b, o, spot⟩ := a
      simp only at hspot
      subst hspot
      refine ⟨x, b, o, rfl, ?_, fun j u hu => ?_⟩
      · have := World.block_lt_of_cell? w _ hc0
        rw [Ar.add_plain] at this
        exact this
      · have hj : j < k := by rw [← hlen]; exact (List.getElem?_eq_some_iff.1 hu).1
        have := hcell j hj
        rw [add_add, Ar.add_plain, ← Nat.add_assoc, hu] at this
        exact this
    refine ⟨some a, len, cap, m, L, hcs, hL1.symm, hl, hm, hL2, (List.range len).map D, (List.range (m - len)).map fun j => D (len + j), by rw [hx], by simp, ?_⟩
    simp
    omega
end
end Go.Proofs.YtjkmfonngbendaaGreatDoor.Fr
