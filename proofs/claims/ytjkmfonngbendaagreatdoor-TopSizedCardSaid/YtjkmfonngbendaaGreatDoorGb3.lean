/- Contract of package slices' BinarySearchFunc at items, and of package item's place. -/
import Derived.Test.YtjkmfonngbendaaGreatDoorLs
import Derived.Test.YtjkmfonngbendaaGreatDoorGb2
import Derived.Test.YtjkmfonngbendaaGreatDoorItD
import Derived.Test.YtjkmfonngbendaaGreatDoorItC
import Derived.Test.YtjkmfonngbendaaGreatDoorChM
import Derived.Deep.Slices
import Derived.ChangeArms
namespace Go.Proofs.YtjkmfonngbendaaGreatDoor.It
set_option linter.unusedVariables false
set_option maxRecDepth 100000
open Go.ChangeShapes Go.WideShapes Go.ChangeAt Go.RowKit
open Ar Rg St
theorem placeCmp_at (x : Itm) (k : ByteArray) (c : Int) (hc : icf x k = c) (w : World) :
    Calls Tryz.prog 128 #[.agg #[.string x.k, .string x.v], .string k] w fun e w' => e = .returned (.int .i64 c) ∧ Below w.heap.size w w' := by
  subst hc
  exact placeCmp_any x k w
theorem icf_lt (x : Itm) (k : ByteArray) : icf x k < 0 ↔ lt (key x) k.data.toList = true := By.cmp_lt _ _
theorem icf_eq (x : Itm) (k : ByteArray) : icf x k = 0 ↔ key x = k.data.toList := By.cmp_eq _ _
theorem found_at {D : List Itm} {k : ByteArray} {p : Nat} {y : Itm} (h : D[p]? = some y) : found D k p = decide (key y = k.data.toList) := by unfold found; rw [h]
theorem found_out {D : List Itm} {k : ByteArray} {p : Nat} (h : D.length ≤ p) : found D k p = false := by unfold found; rw [List.getElem?_eq_none h]
set_option maxRecDepth 100000 in
set_option maxHeartbeats 1000000 in
theorem search_any (D : List Itm) (k : ByteArray) (A : Option Addr) (n cap B : Nat) (hn : n = D.length) (hm : n ≤ 281474976710656) (hs : Srt key lt D) (w : World) (hB : B ≤ w.heap.size) (hD : Ls enc 2 w B A D) :
    Calls Tryz.prog 127 #[.slice A n cap, .string k, .func (.func 128) #[] #[]] w fun e w' => ∃ p : Nat, At D k p ∧ e = .returned (.tuple #[.int .i64 p, .bool (found D k p)]) ∧ Below w.heap.size w w' := by
  have HN := Lib.hid hn
  have HD := Lib.hid hD
  have HS := Lib.hid hs
  clear hn hD hs
  go_enter Tryz.func127, Tryz.ntmps127
  go_wp2_with fail
  go_loopw [9, 10] (fun v u wr => ∃ lo hi : Nat, v = .int .i64 lo ∧ u = .int .i64 hi ∧ Hid (Sc.Bs (GI D k) 0 n lo hi) ∧ Hid (Below w.heap.size w wr)) (fun v u _ => (intOf u).toNat - (intOf v).toNat)
  case atStart => exact ⟨0, n, by go_num, by go_num, Sc.Bs.start _ (Nat.zero_le _), Below.refl _ _⟩
  case round =>
    obtain ⟨lo, hi, rfl, rfl, hbs, hbel⟩ := hrel
    obtain ⟨_, n2, n3, _⟩ := Hid.out hbs
    have hL := HD.out.below ((Hid.out hbel).mono hB)
    by_cases hlt : lo < hi
    · obtain ⟨h, hh⟩ : ∃ h : Nat, ((lo : Int) + (hi : Int)) / 2 = (h : Int) := ⟨(lo + hi) / 2, by omega⟩
      have n4 : lo ≤ h := by omega
      have n5 : h < hi := by omega
      have n6 : (0 : Int) ≤ (h : Int) := by omega
      have n7 : (h : Int) < (n : Int) := by omega
      obtain ⟨z, hz⟩ : ∃ z, D[h]? = some z := ⟨_, List.getElem?_eq_getElem (by rw [← HN.out]; omega)⟩
      obtain ⟨b, o, hAe, hb, hr⟩ := hL h z hz
      have hbl : b < wr.heap.size := Nat.lt_of_lt_of_le hb (Nat.le_trans hB (Hid.out hbel).size)
      have hc0 : wr.cell? ⟨b, o + h * 2, none⟩ = some (.string z.k) := hr 0 _ rfl
      have hc1 : wr.cell? ⟨b, o + h * 2 + 1, none⟩ = some (.string z.v) := hr 1 _ rfl
      clear hL hr
      subst hAe
      obtain ⟨c, hcf⟩ : ∃ c, icf z k = c := ⟨_, rfl⟩
      have hcl := icf_lt z k
      rw [hcf] at hcl
      have HCF := Lib.hid hcf
      by_cases hlk : lt (key z) k.data.toList = true
      · have hc : c < 0 := hcl.2 hlk
        have HUP := Lib.hid ((Hid.out hbs).up n4 n5 (by rw [GI_at hz, hlk]; rfl))
        clear hcl hcf hbs hz hlk
        go_wp2_with (go_at_call 128; refine (placeCmp_at z k c HCF.out _).mono ?_; rintro e w1 ⟨rfl, hb1⟩; have HB1 := Lib.hid ((Hid.out hbel).trans (hb1.mono (Hid.out hbel).size)); clear hb1)
        exact ⟨⟨h + 1, hi, by go_num, rfl, HUP.out, HB1.out⟩, by simp [intOf] <;> omega⟩
      · have hc : 0 ≤ c := by
          have : ¬ c < 0 := fun e => hlk (hcl.1 e)
          omega
        have HDN := Lib.hid ((Hid.out hbs).down n4 n5 (by rw [GI_at hz]; simp only [hlk]; rfl))
        clear hcl hcf hbs hz hlk
        go_wp2_with (go_at_call 128; refine (placeCmp_at z k c HCF.out _).mono ?_; rintro e w1 ⟨rfl, hb1⟩; have HB1 := Lib.hid ((Hid.out hbel).trans (hb1.mono (Hid.out hbel).size)); clear hb1)
        exact ⟨⟨lo, h, rfl, rfl, HDN.out, HB1.out⟩, by simp [intOf] <;> omega⟩
    · obtain rfl : lo = hi := by omega
      have HAT := Lib.hid (at_of HS.out (by have := Hid.out hbs; rw [HN.out] at this; exact this))
      clear hbs
      by_cases hp : lo < n
      · obtain ⟨z, hz⟩ : ∃ z, D[lo]? = some z := ⟨_, List.getElem?_eq_getElem (by rw [← HN.out]; omega)⟩
        obtain ⟨b, o, hAe, hb, hr⟩ := hL lo z hz
        have hbl : b < wr.heap.size := Nat.lt_of_lt_of_le hb (Nat.le_trans hB (Hid.out hbel).size)
        have hc0 : wr.cell? ⟨b, o + lo * 2, none⟩ = some (.string z.k) := hr 0 _ rfl
        have hc1 : wr.cell? ⟨b, o + lo * 2 + 1, none⟩ = some (.string z.v) := hr 1 _ rfl
        clear hL hr
        subst hAe
        obtain ⟨c, hcf⟩ : ∃ c, icf z k = c := ⟨_, rfl⟩
        have hce := icf_eq z k
        rw [hcf] at hce
        have HF := Lib.hid (show found D k lo = (c == 0) by rw [found_at hz, Bool.eq_iff_iff]; simp [hce])
        have HCF := Lib.hid hcf
        clear hcf hce hz
        go_wp2_with (go_at_call 128; refine (placeCmp_at z k c HCF.out _).mono ?_; rintro e w1 ⟨rfl, hb1⟩; have HB1 := Lib.hid ((Hid.out hbel).trans (hb1.mono (Hid.out hbel).size)); clear hb1)
        go_ret2
        exact ⟨lo, HAT.out, by rw [HF.out]; rfl, HB1.out⟩
      · have HF := Lib.hid (found_out (D := D) (k := k) (p := lo) (by rw [← HN.out]; omega))
        clear hL
        go_wp2
        go_ret2
        exact ⟨lo, HAT.out, by rw [HF.out]; rfl, Hid.out hbel⟩
theorem place_any (D : List Itm) (k : ByteArray) (A : Option Addr) (n cap B : Nat) (hn : n = D.length) (hm : n ≤ 281474976710656) (hs : Srt key lt D) (w : World) (hB : B ≤ w.heap.size) (hD : Ls enc 2 w B A D) :
    Calls Tryz.prog 82 #[.slice A n cap, .string k] w fun e w' => ∃ p : Nat, At D k p ∧ e = .returned (.tuple #[.int .i64 p, .bool (found D k p)]) ∧ Below w.heap.size w w' := by
  have HC := Lib.hid (search_any D k A n cap B hn hm hs w hB hD)
  clear hn hs hD
  go_enter Tryz.func82, Tryz.ntmps82
  go_wp2_with (go_at_call 127; refine HC.out.mono ?_; rintro e w1 ⟨p, hp, rfl, hb1⟩; have HP := Lib.hid hp; have HB1 := Lib.hid hb1; clear hp hb1)
  go_ret2
  exact ⟨p, HP.out, rfl, HB1.out⟩
end Go.Proofs.YtjkmfonngbendaaGreatDoor.It
/- A right list rises by key; contract of package item's Get. -/
namespace Go.Proofs.YtjkmfonngbendaaGreatDoor.It
set_option linter.unusedVariables false
set_option maxRecDepth 100000
open Go.ChangeShapes Go.WideShapes Go.ChangeAt Go.RowKit
open Ar Rg St
/-- a list that rises by key, no key twice -/
def Up (D : List Itm) : Prop := D.Pairwise fun a b => lt (key a) (key b) = true
theorem rtFrom_some : ∀ (D : List Itm) (y : Itm), rtFrom (some y) D = true → (∀ x ∈ D, lt (key y) (key x) = true) ∧ Up D ∧ ∀ x ∈ D, okI x = true
  | [], y, _ => ⟨by simp, List.Pairwise.nil, by simp⟩
  | x :: r, y, h => by
    have h' : (okI x && (By.bl (key y) (key x) && rtFrom (some x) r)) = true := h
    rw [Bool.and_eq_true, Bool.and_eq_true] at h'
    obtain ⟨h1, h2, h3⟩ := rtFrom_some r x h'.2.2
    refine ⟨?_, List.pairwise_cons.2 ⟨h1, h2⟩, ?_⟩
    · intro z hz
      rcases List.mem_cons.1 hz with rfl | hz
      · exact h'.2.1
      · exact O.trans _ _ _ h'.2.1 (h1 z hz)
    · intro z hz
      rcases List.mem_cons.1 hz with rfl | hz
      · exact h'.1
      · exact h3 z hz
theorem rt_up {D : List Itm} (h : rt D = true) : Up D ∧ ∀ x ∈ D, okI x = true := by
  cases D with
  | nil => exact ⟨List.Pairwise.nil, by simp⟩
  | cons x r =>
    have h' : (okI x && rtFrom (some x) r) = true := h
    rw [Bool.and_eq_true] at h'
    obtain ⟨h1, h2, h3⟩ := rtFrom_some r x h'.2
    refine ⟨List.pairwise_cons.2 ⟨h1, h2⟩, ?_⟩
    intro z hz
    rcases List.mem_cons.1 hz with rfl | hz
    · exact h'.1
    · exact h3 z hz
theorem Up.srt {D : List Itm} (h : Up D) : Srt key lt D := List.Pairwise.imp (fun hab => O.asymm _ _ hab) h
/-- what a right list has by a key -/
def get (D : List Itm) (k : ByteArray) : Option ByteArray := (D.find? fun x => decide (key x = k.data.toList)).map (·.v)
theorem get_found {D : List Itm} {k : ByteArray} {p : Nat} {y : Itm} (h : At D k p) (hy : D[p]? = some y) (hf : key y = k.data.toList) : get D k = some y.v := by
  obtain ⟨hp, h1, h2⟩ := h
  have e : D = D.take p ++ y :: D.drop (p + 1) := by rw [← drop_at hy, List.take_append_drop]
  unfold get
  rw [e, List.find?_append]
  have hn : (D.take p).find? (fun x => decide (key x = k.data.toList)) = none := by
    rw [List.find?_eq_none]
    intro x hx
    have := O.ne (h1 x hx)
    simpa using this
  rw [hn, Option.none_or, List.find?_cons_of_pos (by simpa using hf)]
  rfl
theorem get_none {D : List Itm} {k : ByteArray} {p : Nat} (hu : Up D) (h : At D k p) (hf : found D k p = false) : get D k = none := by
  obtain ⟨hp, h1, h2⟩ := h
  unfold get
  rw [Option.map_eq_none_iff, List.find?_eq_none]
  intro x hx
  rw [← List.take_append_drop p D] at hx
  rcases List.mem_append.1 hx with hx | hx
  · have := O.ne (h1 x hx)
    simpa using this
  · rcases Nat.lt_or_ge p D.length with hl | hl
    · have hz : D[p]? = some (D[p]'hl) := List.getElem?_eq_getElem _
      rw [found_at hz, decide_eq_false_iff_not] at hf
      have e := drop_at hz
      have hu2 : Up (D.drop p) := List.Pairwise.sublist (List.drop_sublist _ _) hu
      rw [e] at hx hu2
      have hge := h2 D[p] (by rw [e]; exact List.mem_cons_self)
      rcases List.mem_cons.1 hx with rfl | hx
      · simpa using hf
      · have hlt := (List.pairwise_cons.1 hu2).1 x hx
        have hk : lt k.data.toList (key D[p]) = true := by
          cases h3 : lt k.data.toList (key D[p])
          · exact absurd (O.tri _ _ hge h3) hf
          · rfl
        have := O.ne (O.trans _ _ _ hk hlt)
        simp only [decide_eq_true_eq]
        exact fun e => this e.symm
    · rw [List.drop_eq_nil_of_le hl] at hx
      cases hx
def getV (r : Bool) (o : Option ByteArray) : Value :=
  if r then (match o with | some v => .tuple #[.string v, .int .i64 0] | none => .tuple #[.string { data := #[] }, .int .i64 5]) else .tuple #[.string { data := #[] }, .int .i64 4]
end Go.Proofs.YtjkmfonngbendaaGreatDoor.It
/- Contract of the document's find: where a key is, looked for from the front. -/
namespace Go.Proofs.YtjkmfonngbendaaGreatDoor.It
set_option linter.unusedVariables false
set_option maxRecDepth 100000
open Go.ChangeShapes Go.WideShapes Go.ChangeAt Go.RowKit
open Ar Rg St
def No (D : List Itm) (k : ByteArray) (i : Nat) : Prop := ∀ y ∈ D.take i, key y ≠ k.data.toList
theorem No.zero (D : List Itm) (k : ByteArray) : No D k 0 := by intro y hy; simp at hy
theorem No.more {D : List Itm} {k : ByteArray} {i : Nat} {x : Itm} (h : No D k i) (hx : D[i]? = some x) (hk : key x ≠ k.data.toList) : No D k (i + 1) := by
  intro y hy
  have e : D.take (i + 1) = D.take i ++ [x] := by rw [List.take_add_one, hx]; rfl
  rw [e] at hy
  rcases List.mem_append.1 hy with hy | hy
  · exact h y hy
  · simp at hy; subst hy; exact hk
theorem No.get_none {D : List Itm} {k : ByteArray} {i : Nat} (h : No D k i) (hi : D.length ≤ i) : get D k = none := by
  unfold get
  rw [Option.map_eq_none_iff, List.find?_eq_none]
  intro x hx
  have := h x (by rw [List.take_of_length_le hi]; exact hx)
  simpa using this
theorem No.get_some {D : List Itm} {k : ByteArray} {i : Nat} {x : Itm} (h : No D k i) (hx : D[i]? = some x) (hk : key x = k.data.toList) : get D k = some x.v := by
  have e : D = D.take i ++ x :: D.drop (i + 1) := by rw [← drop_at hx, List.take_append_drop]
  unfold get
  rw [e, List.find?_append]
  have hn : (D.take i).find? (fun x => decide (key x = k.data.toList)) = none := by
    rw [List.find?_eq_none]
    intro y hy
    have := h y hy
    simpa using this
  rw [hn, Option.none_or, List.find?_cons_of_pos (by simpa using hk)]
  rfl
theorem str_eq (a b : ByteArray) : (a.toList == b.toList) = decide (a.data.toList = b.data.toList) := by
  rw [ByteArray.toList_eq, ByteArray.toList_eq, Bool.eq_iff_iff]
  simp
/-- -1 and none, or a place and what is there -/
def FindV (D : List Itm) (k : ByteArray) (v : Int) : Prop := (v = -1 ∧ get D k = none) ∨ ∃ (p : Nat) (y : Itm), v = p ∧ D[p]? = some y ∧ get D k = some y.v
end Go.Proofs.YtjkmfonngbendaaGreatDoor.It
/- Plain mathematics of items and changes by key: what a list is with changes done, what two lists are apart, what is under a prefix. No word of the program here. -/
namespace Go.Proofs.YtjkmfonngbendaaGreatDoor.It
set_option linter.unusedVariables false
set_option maxRecDepth 100000
open Ar Rg St
abbrev Ch := Sc.Ch
abbrev ckey (c : Ch) : List UInt8 := Sc.key c
section
variable {α : Type} {key : α → List UInt8}
def UpK (key : α → List UInt8) (D : List α) : Prop := D.Pairwise fun a b => lt (key a) (key b) = true
theorem up_ext {A B : List α} (hA : UpK key A) (hB : UpK key B) (h : ∀ x, x ∈ A ↔ x ∈ B) : A = B := by
  induction A generalizing B with
  | nil =>
    cases B with
    | nil => rfl
    | cons y B => exact absurd ((h y).2 List.mem_cons_self) (List.not_mem_nil)
  | cons x A ih =>
    cases B with
    | nil => exact absurd ((h x).1 List.mem_cons_self) (List.not_mem_nil)
    | cons y B =>
      obtain ⟨a1, a2⟩ := List.pairwise_cons.1 hA
      obtain ⟨b1, b2⟩ := List.pairwise_cons.1 hB
      have e : x = y := by
        rcases List.mem_cons.1 ((h x).1 List.mem_cons_self) with e | e
        · exact e
        · rcases List.mem_cons.1 ((h y).2 List.mem_cons_self) with e' | e'
          · exact e'.symm
          · have h1 := b1 x e
            have h2 := a1 y e'
            rw [O.asymm _ _ h1] at h2; cases h2
      subst e
      rw [ih a2 b2 fun z => ?_]
      constructor
      · intro hz
        rcases List.mem_cons.1 ((h z).1 (List.mem_cons_of_mem _ hz)) with e | e
        · subst e; have := a1 z hz; rw [O.irrefl] at this; cases this
        · exact e
      · intro hz
        rcases List.mem_cons.1 ((h z).2 (List.mem_cons_of_mem _ hz)) with e | e
        · subst e; have := b1 z hz; rw [O.irrefl] at this; cases this
        · exact e
theorem up_inj {D : List α} (h : UpK key D) {x y : α} (hx : x ∈ D) (hy : y ∈ D) (e : key x = key y) : x = y := by
  induction D with
  | nil => cases hx
  | cons z D ih =>
    obtain ⟨h1, h2⟩ := List.pairwise_cons.1 h
    rcases List.mem_cons.1 hx with e1 | h3 <;> rcases List.mem_cons.1 hy with e2 | h4
    · rw [e1, e2]
    · have := h1 y h4; rw [← e1, e, O.irrefl] at this; cases this
    · have := h1 x h3; rw [← e2, e, O.irrefl] at this; cases this
    · exact ih h2 h3 h4
theorem UpK.sub {A D : List α} (h : UpK key D) (hs : A.Sublist D) : UpK key A := List.Pairwise.sublist hs h
theorem UpK.cons {x : α} {D : List α} : UpK key (x :: D) ↔ (∀ y ∈ D, lt (key x) (key y) = true) ∧ UpK key D := List.pairwise_cons
theorem UpK.append {A B : List α} : UpK key (A ++ B) ↔ UpK key A ∧ UpK key B ∧ ∀ x ∈ A, ∀ y ∈ B, lt (key x) (key y) = true := List.pairwise_append
theorem UpK.nil : UpK key ([] : List α) := List.Pairwise.nil
theorem UpK.one (x : α) : UpK key [x] := List.pairwise_singleton _ _
end
theorem le_ne {a b : List UInt8} (h : lt a b = false) (hn : a ≠ b) : lt b a = true := by
  cases h2 : lt b a
  · exact absurd (O.tri _ _ h h2) hn
  · rfl
/-! ## a change done -/
def itm (c : Ch) : Itm := ⟨c.k, c.v⟩
theorem key_itm (c : Ch) : key (itm c) = ckey c := rfl
def donL (c : Ch) : Bool → List Itm → List Itm
  | put, [] => if put then [] else [itm c]
  | put, x :: r => (if !put && !lt (key x) (ckey c) then [itm c] else []) ++ ((if key x = ckey c then [] else [x]) ++ donL c (put || !lt (key x) (ckey c)) r)
def don (c : Ch) (D : List Itm) : List Itm := donL c (!c.h) D
theorem mem_donL (c : Ch) (x : Itm) : ∀ (D : List Itm) (put : Bool), x ∈ donL c put D ↔ (x ∈ D ∧ key x ≠ ckey c) ∨ (put = false ∧ x = itm c)
  | [], put => by cases put <;> simp [donL]
  | y :: r, put => by
    rw [donL, List.mem_append, List.mem_append, mem_donL c x r]
    by_cases h1 : lt (key y) (ckey c) = true
    · have h2 := O.ne h1
      rw [h1, if_neg h2]
      cases put <;> simp
      · constructor
        · rintro (rfl | h | h)
          · exact .inl ⟨.inl rfl, h2⟩
          · exact .inl ⟨.inr h.1, h.2⟩
          · exact .inr h
        · rintro (⟨rfl | h, h'⟩ | h)
          · exact .inl rfl
          · exact .inr (.inl ⟨h, h'⟩)
          · exact .inr (.inr h)
      · constructor
        · rintro (rfl | h)
          · exact ⟨.inl rfl, h2⟩
          · exact ⟨.inr h.1, h.2⟩
        · rintro ⟨rfl | h, h'⟩
          · exact .inl rfl
          · exact .inr ⟨h, h'⟩
    · have h1 : lt (key y) (ckey c) = false := by simpa using h1
      rw [h1]
      by_cases h2 : key y = ckey c
      · rw [if_pos h2]
        cases put <;> simp
        · constructor
          · rintro (h | h)
            · exact .inr h
            · exact .inl ⟨.inr h.1, h.2⟩
          · rintro (⟨rfl | h, h'⟩ | h)
            · exact absurd h2 h'
            · exact .inr ⟨h, h'⟩
            · exact .inl h
        · intro h e
          exact absurd (e ▸ h2) h
      · rw [if_neg h2]
        cases put <;> simp
        · constructor
          · rintro (h | rfl | h)
            · exact .inr h
            · exact .inl ⟨.inl rfl, h2⟩
            · exact .inl ⟨.inr h.1, h.2⟩
          · rintro (⟨rfl | h, h'⟩ | h)
            · exact .inr (.inl rfl)
            · exact .inr (.inr ⟨h, h'⟩)
            · exact .inl h
        · constructor
          · rintro (rfl | h)
            · exact ⟨.inl rfl, h2⟩
            · exact ⟨.inr h.1, h.2⟩
          · rintro ⟨rfl | h, h'⟩
            · exact .inl rfl
            · exact .inr ⟨h, h'⟩
theorem mem_don (c : Ch) (x : Itm) (D : List Itm) : x ∈ don c D ↔ (x ∈ D ∧ key x ≠ ckey c) ∨ (c.h = true ∧ x = itm c) := by
  unfold don
  rw [mem_donL]
  simp
theorem donL_true (c : Ch) : ∀ D : List Itm, donL c true D = D.filter fun x => decide (key x ≠ ckey c)
  | [] => rfl
  | x :: r => by
    rw [donL, Bool.true_or, donL_true c r, List.filter_cons]
    by_cases h : key x = ckey c <;> simp [h]
theorem up_donL (c : Ch) : ∀ (D : List Itm) (put : Bool), UpK key D → UpK key (donL c put D)
  | D, true, h => by rw [donL_true]; exact h.sub List.filter_sublist
  | [], false, _ => UpK.one _
  | x :: r, false, h => by
    obtain ⟨h1, h2⟩ := UpK.cons.1 h
    rw [donL]
    by_cases hl : lt (key x) (ckey c) = true
    · rw [hl, if_neg (O.ne hl)]
      refine UpK.cons.2 ⟨fun y hy => ?_, up_donL c r false h2⟩
      rcases (mem_donL c y r false).1 hy with ⟨h3, _⟩ | ⟨_, rfl⟩
      · exact h1 y h3
      · exact hl
    · have hl : lt (key x) (ckey c) = false := by simpa using hl
      rw [hl]
      have e : (if key x = ckey c then [] else [x]) ++ donL c (false || !false) r = (x :: r).filter fun x => decide (key x ≠ ckey c) := by
        rw [← donL_true, donL]; rfl
      rw [e]
      refine UpK.cons.2 ⟨fun y hy => ?_, h.sub List.filter_sublist⟩
      obtain ⟨hy, hne⟩ := List.mem_filter.1 hy
      have hne : key y ≠ ckey c := by simpa using hne
      refine le_ne ?_ hne
      show lt (key y) (ckey c) = false
      rcases List.mem_cons.1 hy with rfl | hy
      · exact hl
      · cases h3 : lt (key y) (ckey c)
        · rfl
        · have := O.trans _ _ _ (h1 y hy) h3
          rw [hl] at this; cases this
theorem up_don (c : Ch) {D : List Itm} (h : UpK key D) : UpK key (don c D) := up_donL c D _ h
/-! ## changes done -/
def app (D : List Itm) (C : List Ch) : List Itm := C.foldl (fun D c => don c D) D
theorem app_nil (D : List Itm) : app D [] = D := rfl
theorem app_cons (D : List Itm) (c : Ch) (C : List Ch) : app D (c :: C) = app (don c D) C := rfl
theorem app_snoc (D : List Itm) (C : List Ch) (c : Ch) : app D (C ++ [c]) = don c (app D C) := by unfold app; rw [List.foldl_append]; rfl
theorem app_append (D : List Itm) (C C' : List Ch) : app D (C ++ C') = app (app D C) C' := by unfold app; rw [List.foldl_append]
theorem up_app {D : List Itm} (C : List Ch) (h : UpK key D) : UpK key (app D C) := by
  induction C generalizing D with
  | nil => exact h
  | cons c C ih => exact ih (up_don c h)
/-- c is the last of its key in C -/
def Lst (C : List Ch) (c : Ch) : Prop := (C.filter fun d => ckey d = ckey c).getLast? = some c
theorem Lst.mem {C : List Ch} {c : Ch} (h : Lst C c) : c ∈ C := (List.mem_filter.1 (List.mem_of_getLast? h)).1
theorem Lst.snoc {C : List Ch} {c d : Ch} : Lst (C ++ [d]) c ↔ (d = c) ∨ (ckey d ≠ ckey c ∧ Lst C c) := by
  unfold Lst
  rw [List.filter_append]
  by_cases h : ckey d = ckey c
  · rw [List.filter_cons_of_pos (by simpa using h), List.filter_nil, List.getLast?_concat]
    simp [h]
  · rw [List.filter_cons_of_neg (by simpa using h), List.filter_nil, List.append_nil]
    constructor
    · intro hl; exact .inr ⟨h, hl⟩
    · rintro (rfl | hl)
      · exact absurd rfl h
      · exact hl.2
theorem mem_app (D : List Itm) (x : Itm) (C : List Ch) : x ∈ app D C ↔ (x ∈ D ∧ ∀ c ∈ C, ckey c ≠ key x) ∨ ∃ c, Lst C c ∧ c.h = true ∧ x = itm c := by
  suffices H : ∀ R : List Ch, x ∈ app D R.reverse ↔ (x ∈ D ∧ ∀ c ∈ R.reverse, ckey c ≠ key x) ∨ ∃ c, Lst R.reverse c ∧ c.h = true ∧ x = itm c by
    have := H C.reverse
    rwa [List.reverse_reverse] at this
  intro R
  induction R with
  | nil => simp [app, Lst]
  | cons d R ih =>
    rw [List.reverse_cons, app_snoc, mem_don, ih]
    constructor
    · rintro (⟨⟨h1, h2⟩ | ⟨c, h1, h2, rfl⟩, h3⟩ | ⟨h1, rfl⟩)
      · refine .inl ⟨h1, fun c hc => ?_⟩
        rcases List.mem_append.1 hc with hc | hc
        · exact h2 c hc
        · simp at hc; subst hc; exact fun e => h3 e.symm
      · exact .inr ⟨c, Lst.snoc.2 (.inr ⟨fun e => h3 e.symm, h1⟩), h2, rfl⟩
      · exact .inr ⟨d, Lst.snoc.2 (.inl rfl), h1, rfl⟩
    · rintro (⟨h1, h2⟩ | ⟨c, h1, h2, rfl⟩)
      · exact .inl ⟨.inl ⟨h1, fun c hc => h2 c (List.mem_append_left _ hc)⟩, fun e => h2 d (by simp) e.symm⟩
      · rcases Lst.snoc.1 h1 with rfl | ⟨h3, h4⟩
        · exact .inr ⟨h2, rfl⟩
        · exact .inl ⟨.inr ⟨c, h4, h2, rfl⟩, fun e => h3 e.symm⟩
theorem up_lst {C : List Ch} (h : UpK Sc.key C) (c : Ch) : Lst C c ↔ c ∈ C := by
  constructor
  · exact Lst.mem
  · intro hc
    unfold Lst
    have e : C.filter (fun d => ckey d = ckey c) = [c] := by
      refine up_ext (key := Sc.key) (h.sub List.filter_sublist) (UpK.one c) fun d => ?_
      rw [List.mem_filter, List.mem_singleton]
      constructor
      · rintro ⟨h1, h2⟩; exact up_inj h h1 hc (by simpa using h2)
      · rintro rfl; exact ⟨hc, by simp⟩
    rw [e]; rfl
theorem app_same {D : List Itm} {C L : List Ch} (hD : UpK key D) (h : ∀ c, Lst L c ↔ Lst C c) : app D L = app D C := by
  refine up_ext (up_app _ hD) (up_app _ hD) fun x => ?_
  have hk : ∀ (C L : List Ch), (∀ c, Lst L c ↔ Lst C c) → (∀ c ∈ C, ckey c ≠ key x) → ∀ c ∈ L, ckey c ≠ key x := by
    intro C L h hC c hc e
    have hne : (L.filter fun d => ckey d = ckey c) ≠ [] := by
      intro h0
      have := List.filter_eq_nil_iff.1 h0 c hc
      simp at this
    obtain ⟨d, hd⟩ : ∃ d, (L.filter fun d => ckey d = ckey c).getLast? = some d := by
      cases h1 : (L.filter fun d => ckey d = ckey c).getLast? with
      | none => exact absurd (List.getLast?_eq_none_iff.1 h1) hne
      | some d => exact ⟨d, rfl⟩
    have hdk : ckey d = ckey c := by simpa using (List.mem_filter.1 (List.mem_of_getLast? hd)).2
    have hl : Lst L d := by unfold Lst; rw [hdk]; exact hd
    exact hC d ((h d).1 hl).mem (hdk.trans e)
  rw [mem_app, mem_app]
  constructor
  · rintro (⟨h1, h2⟩ | ⟨c, h1, h2⟩)
    · exact .inl ⟨h1, hk L C (fun c => (h c).symm) h2⟩
    · exact .inr ⟨c, (h c).1 h1, h2⟩
  · rintro (⟨h1, h2⟩ | ⟨c, h1, h2⟩)
    · exact .inl ⟨h1, hk C L h h2⟩
    · exact .inr ⟨c, (h c).2 h1, h2⟩
/-- the program's way: what is ahead of the change's place, the change, the rest -/
theorem app_step {D : List Itm} {c : Ch} {L : List Ch} {p : Nat} (hD : UpK key D) (hL : UpK Sc.key (c :: L)) (hp : At D c.k p) :
    app D (c :: L) = (D.take p ++ (if c.h then [itm c] else [])) ++ app (D.drop (p + if found D c.k p then 1 else 0)) L := by
  obtain ⟨hp1, hp2, hp3⟩ := hp
  obtain ⟨hl1, hl2⟩ := UpK.cons.1 hL
  have hk : c.k.data.toList = ckey c := rfl
  rw [hk] at hp2 hp3
  have hdrop : ∀ x ∈ D.drop (p + if found D c.k p then 1 else 0), x ∈ D.drop p ∧ lt (ckey c) (key x) = true := by
    intro x hx
    rcases Nat.lt_or_ge p D.length with hlt | hge
    · have hz : D[p]? = some (D[p]'hlt) := List.getElem?_eq_getElem _
      rw [found_at hz] at hx
      have e := drop_at hz
      have hu : UpK key (D.drop p) := hD.sub (List.drop_sublist _ _)
      rw [e] at hu
      have hge := hp3 D[p] (by rw [e]; exact List.mem_cons_self)
      by_cases hf : key D[p] = c.k.data.toList
      · rw [decide_eq_true hf, if_pos rfl] at hx
        refine ⟨by rw [e]; exact List.mem_cons_of_mem _ hx, ?_⟩
        have := (UpK.cons.1 hu).1 x hx
        rw [hf] at this; exact this
      · rw [decide_eq_false hf, if_neg (by simp), Nat.add_zero] at hx
        refine ⟨hx, ?_⟩
        have h0 := le_ne hge hf
        rw [e] at hx
        rcases List.mem_cons.1 hx with rfl | hx
        · exact h0
        · exact O.trans _ _ _ h0 ((UpK.cons.1 hu).1 x hx)
    · rw [List.drop_eq_nil_of_le (by omega)] at hx; cases hx
  have hdrop2 : ∀ x ∈ D.drop p, key x ≠ ckey c → x ∈ D.drop (p + if found D c.k p then 1 else 0) := by
    intro x hx hne
    rcases Nat.lt_or_ge p D.length with hlt | hge
    · have hz : D[p]? = some (D[p]'hlt) := List.getElem?_eq_getElem _
      rw [found_at hz]
      by_cases hf : key D[p] = c.k.data.toList
      · rw [decide_eq_true hf, if_pos rfl]
        rw [drop_at hz] at hx
        rcases List.mem_cons.1 hx with rfl | hx
        · exact absurd hf hne
        · exact hx
      · rw [decide_eq_false hf, if_neg (by simp), Nat.add_zero]; exact hx
    · rw [List.drop_eq_nil_of_le (by omega)] at hx; cases hx
  have htail : ∀ x ∈ app (D.drop (p + if found D c.k p then 1 else 0)) L, lt (ckey c) (key x) = true := by
    intro x hx
    rcases (mem_app _ x L).1 hx with ⟨h1, _⟩ | ⟨d, h1, _, rfl⟩
    · exact (hdrop x h1).2
    · exact hl1 d h1.mem
  have hhead : ∀ x ∈ D.take p ++ (if c.h then [itm c] else []), x ∈ D.take p ∨ (c.h = true ∧ x = itm c) := by
    intro x hx
    rcases List.mem_append.1 hx with hx | hx
    · exact .inl hx
    · by_cases h : c.h = true
      · rw [if_pos h] at hx; exact .inr ⟨h, by simpa using hx⟩
      · rw [if_neg h] at hx; cases hx
  refine up_ext (up_app _ hD) ?_ fun x => ?_
  · refine UpK.append.2 ⟨UpK.append.2 ⟨hD.sub (List.take_sublist _ _), ?_, ?_⟩, up_app _ (hD.sub (List.drop_sublist _ _)), ?_⟩
    · split
      · exact UpK.one _
      · exact UpK.nil
    · intro x hx y hy
      by_cases h : c.h = true
      · rw [if_pos h] at hy
        simp at hy; subst hy
        exact hp2 x hx
      · rw [if_neg h] at hy; cases hy
    · intro x hx y hy
      rcases hhead x hx with h | ⟨_, rfl⟩
      · exact O.trans _ _ _ (hp2 x h) (htail y hy)
      · exact htail y hy
  · rw [mem_app, List.mem_append]
    constructor
    · rintro (⟨h1, h2⟩ | ⟨d, h1, h2, rfl⟩)
      · rw [← List.take_append_drop p D] at h1
        rcases List.mem_append.1 h1 with h1 | h1
        · exact .inl (List.mem_append_left _ h1)
        · refine .inr ((mem_app _ x L).2 (.inl ⟨hdrop2 x h1 (fun e => h2 c List.mem_cons_self e.symm), fun d hd => h2 d (List.mem_cons_of_mem _ hd)⟩))
      · have hm := (up_lst hL d).1 h1
        rcases List.mem_cons.1 hm with rfl | hm
        · exact .inl (List.mem_append_right _ (by rw [if_pos h2]; simp))
        · exact .inr ((mem_app _ _ L).2 (.inr ⟨d, (up_lst hl2 d).2 hm, h2, rfl⟩))
    · rintro (h1 | h1)
      · rcases hhead x h1 with h | ⟨h, rfl⟩
        · refine .inl ⟨List.mem_of_mem_take h, fun d hd e => ?_⟩
          have := hp2 x h
          rcases List.mem_cons.1 hd with rfl | hd
          · rw [e, O.irrefl] at this; cases this
          · have := O.trans _ _ _ this (hl1 d hd)
            rw [show Sc.key d = key x from e, O.irrefl] at this; cases this
        · exact .inr ⟨c, (up_lst hL c).2 List.mem_cons_self, h, rfl⟩
      · rcases (mem_app _ x L).1 h1 with ⟨h2, h3⟩ | ⟨d, h2, h3, rfl⟩
        · obtain ⟨h4, h5⟩ := hdrop x h2
          refine .inl ⟨List.mem_of_mem_drop h4, fun d hd => ?_⟩
          rcases List.mem_cons.1 hd with rfl | hd
          · exact O.ne h5
          · exact h3 d hd
        · exact .inr ⟨d, (up_lst hL d).2 (List.mem_cons_of_mem _ h2.mem), h3, rfl⟩
/-! ## of each key the last -/
def lasts : List Ch → List Ch
  | [] => []
  | c :: r => (match r with | [] => [c] | d :: _ => if ckey d = ckey c then [] else [c]) ++ lasts r
theorem lasts_mem : ∀ (S : List Ch) {c : Ch}, c ∈ lasts S → c ∈ S
  | [], c, h => by cases h
  | [a], c, h => by simpa [lasts] using h
  | a :: b :: r, c, h => by
    rw [lasts] at h
    rcases List.mem_append.1 h with h | h
    · split at h
      · cases h
      · simp at h; subst h; exact List.mem_cons_self
    · exact List.mem_cons_of_mem _ (lasts_mem (b :: r) h)
theorem lasts_spec : ∀ S : List Ch, Srt Sc.key lt S → UpK Sc.key (lasts S) ∧ ∀ c, c ∈ lasts S ↔ Lst S c
  | [], _ => ⟨UpK.nil, fun c => by simp [lasts, Lst]⟩
  | [a], _ => ⟨UpK.one a, fun c => by
      have : Lst [a] c ↔ _ := Lst.snoc (C := []) (d := a) (c := c)
      rw [this]
      constructor
      · intro h; left; have h : c = a := by simpa [lasts] using h
        exact h.symm
      · rintro (rfl | ⟨_, h⟩)
        · simp [lasts]
        · exact absurd h.mem List.not_mem_nil⟩
  | a :: b :: r, h => by
    obtain ⟨h1, h2⟩ := List.pairwise_cons.1 h
    obtain ⟨i1, i2⟩ := lasts_spec (b :: r) h2
    have hL : ∀ c, Lst (a :: b :: r) c ↔ Lst (b :: r) c ∨ (c = a ∧ ∀ d ∈ b :: r, ckey d ≠ ckey a) := by
      intro c
      unfold Lst
      by_cases hk : ckey a = ckey c
      · rw [List.filter_cons_of_pos (by simpa using hk)]
        by_cases hn : (b :: r).filter (fun d => ckey d = ckey c) = []
        · rw [hn]
          constructor
          · intro e
            simp at e
            subst e
            refine .inr ⟨rfl, fun d hd e => ?_⟩
            have := List.filter_eq_nil_iff.1 hn d hd
            simp at this; exact this e
          · rintro (e | ⟨rfl, _⟩)
            · cases e
            · rfl
        · rw [List.getLast?_cons_of_ne_nil hn]
          constructor
          · exact .inl
          · rintro (e | ⟨rfl, e⟩)
            · exact e
            · exact absurd (filter_none (key := Sc.key) (k := ckey c) e) hn
      · rw [List.filter_cons_of_neg (by simpa using hk)]
        constructor
        · exact .inl
        · rintro (e | ⟨rfl, _⟩)
          · exact e
          · exact absurd rfl hk
    rw [lasts]
    by_cases hab : ckey b = ckey a
    · rw [if_pos hab, List.nil_append]
      refine ⟨i1, fun c => ?_⟩
      rw [i2, hL]
      constructor
      · exact .inl
      · rintro (e | ⟨_, e⟩)
        · exact e
        · exact absurd hab (e b List.mem_cons_self)
    · rw [if_neg hab]
      have hlt : ∀ d ∈ b :: r, lt (ckey a) (ckey d) = true := by
        intro d hd
        have hb := h1 b List.mem_cons_self
        have hba : lt (ckey a) (ckey b) = true := le_ne hb hab
        rcases List.mem_cons.1 hd with rfl | hd
        · exact hba
        · exact O.lt_le hba ((List.pairwise_cons.1 h2).1 d hd)
      refine ⟨UpK.cons.2 ⟨fun d hd => hlt d (lasts_mem _ hd), i1⟩, fun c => ?_⟩
      rw [hL, List.mem_append, i2]
      constructor
      · rintro (e | e)
        · simp at e; subst e
          exact .inr ⟨rfl, fun d hd e => by have := O.ne (hlt d hd); exact this e.symm⟩
        · exact .inl e
      · rintro (e | ⟨rfl, _⟩)
        · exact .inr e
        · exact .inl (by simp)
theorem Lst.same {C C' : List Ch} (h : Sm Sc.key C C') (c : Ch) : Lst C c ↔ Lst C' c := by unfold Lst; rw [h (ckey c)]
theorem app_lasts {D : List Itm} {C S : List Ch} (hD : UpK key D) (hs : Srt Sc.key lt S) (hm : Sm Sc.key C S) : app D (lasts S) = app D C :=
  app_same hD fun c => by rw [up_lst (lasts_spec S hs).1, (lasts_spec S hs).2, Lst.same hm]
/-! ## right lists -/
theorem rt_of : ∀ {D : List Itm}, UpK key D → (∀ x ∈ D, okI x = true) → rt D = true := by
  have H : ∀ (D : List Itm) (y : Itm), UpK key (y :: D) → (∀ x ∈ D, okI x = true) → rtFrom (some y) D = true := by
    intro D
    induction D with
    | nil => intro y _ _; rfl
    | cons x r ih =>
      intro y h1 h2
      obtain ⟨h3, h4⟩ := UpK.cons.1 h1
      show (okI x && (By.bl (key y) (key x) && rtFrom (some x) r)) = true
      rw [h2 x List.mem_cons_self, ih x h4 fun z hz => h2 z (List.mem_cons_of_mem _ hz)]
      have := h3 x List.mem_cons_self
      simpa using this
  intro D h1 h2
  cases D with
  | nil => rfl
  | cons x r =>
    show (okI x && rtFrom (some x) r) = true
    rw [h2 x List.mem_cons_self, H r x h1 fun z hz => h2 z (List.mem_cons_of_mem _ hz)]
    rfl
theorem rt_iff {D : List Itm} : rt D = true ↔ UpK key D ∧ ∀ x ∈ D, okI x = true := ⟨rt_up, fun h => rt_of h.1 h.2⟩
theorem rc_iff {C : List Ch} : rc C = true ↔ ∀ c ∈ C, okC c = true := by unfold rc; rw [List.all_eq_true]
theorem okC_itm {c : Ch} (h : okC c = true) : okI (itm c) = true := by
  simp only [okC, Bool.and_eq_true] at h
  simp only [okI, itm, Bool.and_eq_true]
  exact ⟨h.1, h.2.1⟩
theorem rt_app {D : List Itm} {C : List Ch} (hD : rt D = true) (hC : rc C = true) : rt (app D C) = true := by
  obtain ⟨h1, h2⟩ := rt_iff.1 hD
  refine rt_of (up_app _ h1) fun x hx => ?_
  rcases (mem_app _ x C).1 hx with ⟨h3, _⟩ | ⟨c, h3, _, rfl⟩
  · exact h2 x h3
  · exact okC_itm (rc_iff.1 hC c h3.mem)
theorem app_twice {D : List Itm} (hD : UpK key D) (c : Ch) : app (app D [c]) [c] = app D [c] := by
  show don c (don c D) = don c D
  refine up_ext (up_don c (up_don c hD)) (up_don c hD) fun x => ?_
  rw [mem_don, mem_don]
  constructor
  · rintro (⟨h | h, h'⟩ | h)
    · exact .inl h
    · exact .inr h
    · exact .inr h
  · rintro (h | h)
    · exact .inl ⟨.inl h, h.2⟩
    · exact .inr h
/-! ## what a list has by a key -/
theorem get_iff {D : List Itm} (h : UpK key D) (k v : ByteArray) : get D k = some v ↔ (⟨k, v⟩ : Itm) ∈ D := by
  unfold get
  have hk : ∀ x : Itm, key x = k.data.toList → x.k = k := by
    intro x e
    have := Array.toList_inj.1 e
    exact ByteArray.ext this
  constructor
  · intro e
    obtain ⟨x, hx, rfl⟩ := Option.map_eq_some_iff.1 e
    have h1 := List.mem_of_find?_eq_some hx
    have h2 : key x = k.data.toList := by simpa using List.find?_some hx
    have h3 := hk x h2
    obtain ⟨xk, xv⟩ := x
    simp only at h3
    subst h3
    exact h1
  · intro hm
    cases hf : D.find? (fun x => decide (key x = k.data.toList)) with
    | none =>
      have := List.find?_eq_none.1 hf _ hm
      simp [key] at this
    | some y =>
      have h1 := List.mem_of_find?_eq_some hf
      have h2 : key y = k.data.toList := by simpa using List.find?_some hf
      have : y = ⟨k, v⟩ := up_inj h h1 hm h2
      subst this; rfl
/-- what is there by a key behind changes -/
def lastV (k : ByteArray) : Option ByteArray → List Ch → Option ByteArray
  | o, [] => o
  | o, c :: C => lastV k (if ckey c = k.data.toList then (if c.h then some c.v else none) else o) C
theorem get_don {D : List Itm} (h : UpK key D) (k : ByteArray) (c : Ch) : get (don c D) k = if ckey c = k.data.toList then (if c.h then some c.v else none) else get D k := by
  refine Option.ext fun v => ?_
  rw [get_iff (up_don c h), mem_don]
  have hk : ckey c = k.data.toList ↔ c.k = k := by
    constructor
    · intro e; exact ByteArray.ext (Array.toList_inj.1 e)
    · rintro rfl; rfl
  by_cases hc : ckey c = k.data.toList
  · rw [if_pos hc]
    have hc' := hk.1 hc
    have e1 : key (⟨k, v⟩ : Itm) = ckey c := hc.symm
    rw [e1]
    by_cases hh : c.h = true
    · rw [if_pos hh]
      constructor
      · rintro (⟨_, h'⟩ | ⟨_, e⟩)
        · exact absurd rfl h'
        · have : v = c.v := congrArg Itm.v e
          rw [this]
      · intro e
        cases e
        exact .inr ⟨hh, by rw [← hc']; rfl⟩
    · rw [if_neg hh]
      constructor
      · rintro (⟨_, h'⟩ | ⟨h', _⟩)
        · exact absurd rfl h'
        · exact absurd h' hh
      · intro e; cases e
  · rw [if_neg hc, get_iff h]
    constructor
    · rintro (⟨h', _⟩ | ⟨_, e⟩)
      · exact h'
      · exact absurd (hk.2 (congrArg Itm.k e).symm) hc
    · intro h'
      exact .inl ⟨h', fun e => hc e.symm⟩
theorem get_app (k : ByteArray) : ∀ (C : List Ch) {D : List Itm}, UpK key D → get (app D C) k = lastV k (get D k) C
  | [], D, _ => rfl
  | c :: C, D, h => by
    rw [app_cons, get_app k C (up_don c h), get_don h, lastV]
end Go.Proofs.YtjkmfonngbendaaGreatDoor.It
/- Plain mathematics of items: what two lists are apart, what is under a prefix. No word of the program here. -/
namespace Go.Proofs.YtjkmfonngbendaaGreatDoor.It
set_option linter.unusedVariables false
set_option maxRecDepth 100000
open Ar Rg St
/-! ## apart -/
def gone (x : Itm) : Ch := ⟨x.k, false, ByteArray.empty⟩
def there (x : Itm) : Ch := ⟨x.k, true, x.v⟩
def dif : List Itm → List Itm → List Ch
  | [], [] => []
  | a :: A, [] => gone a :: dif A []
  | [], b :: B => there b :: dif [] B
  | a :: A, b :: B =>
    if lt (key a) (key b) then gone a :: dif A (b :: B)
    else if lt (key b) (key a) then there b :: dif (a :: A) B
    else (if a.v.data.toList = b.v.data.toList then [] else [there b]) ++ dif A B
termination_by A B => A.length + B.length
theorem dif_nil (A : List Itm) : dif [] [] = [] := by rw [dif]
theorem dif_left (a : Itm) (A : List Itm) : dif (a :: A) [] = gone a :: dif A [] := by rw [dif]
theorem dif_right (b : Itm) (B : List Itm) : dif [] (b :: B) = there b :: dif [] B := by rw [dif]
theorem dif_lt {a b : Itm} (A B : List Itm) (h : lt (key a) (key b) = true) : dif (a :: A) (b :: B) = gone a :: dif A (b :: B) := by rw [dif, if_pos h]
theorem dif_gt {a b : Itm} (A B : List Itm) (h : lt (key b) (key a) = true) : dif (a :: A) (b :: B) = there b :: dif (a :: A) B := by
  rw [dif, if_neg (by rw [O.asymm _ _ h]; simp), if_pos h]
theorem dif_same {a b : Itm} (A B : List Itm) (h : key a = key b) (hv : a.v.data.toList = b.v.data.toList) : dif (a :: A) (b :: B) = dif A B := by
  rw [dif, h, O.irrefl, if_neg (by simp), if_neg (by simp), if_pos hv]; rfl
theorem dif_other {a b : Itm} (A B : List Itm) (h : key a = key b) (hv : a.v.data.toList ≠ b.v.data.toList) : dif (a :: A) (b :: B) = there b :: dif A B := by
  rw [dif, h, O.irrefl, if_neg (by simp), if_neg (by simp), if_neg hv]; rfl
theorem dif_len (A B : List Itm) : (dif A B).length ≤ A.length + B.length := by
  fun_induction dif A B with
  | case1 => simp
  | case2 a A ih => simp at ih ⊢; omega
  | case3 b B ih => simp at ih ⊢; omega
  | case4 a A b B h ih => simp at ih ⊢; omega
  | case5 a A b B h h' ih => simp at ih ⊢; omega
  | case6 a A b B h h' ih =>
    rw [List.length_append]
    have : (if a.v.data.toList = b.v.data.toList then [] else [there b]).length ≤ 1 := by split <;> simp
    simp only [List.length_cons]; omega
theorem itm_ext {a b : Itm} (h : key a = key b) (hv : a.v.data.toList = b.v.data.toList) : a = b := by
  obtain ⟨ak, av⟩ := a
  obtain ⟨bk, bv⟩ := b
  have h1 : ak = bk := ByteArray.ext (Array.toList_inj.1 h)
  have h2 : av = bv := ByteArray.ext (Array.toList_inj.1 hv)
  rw [h1, h2]
def InDif (A B : List Itm) (c : Ch) : Prop := (∃ x, x ∈ A ∧ c = gone x ∧ ∀ y ∈ B, key y ≠ key x) ∨ ∃ y, y ∈ B ∧ c = there y ∧ y ∉ A
theorem mem_dif (c : Ch) (A B : List Itm) (hA : UpK key A) (hB : UpK key B) : c ∈ dif A B ↔ InDif A B c := by
  unfold InDif
  fun_induction dif A B with
  | case1 => simp
  | case2 a A ih =>
    rw [List.mem_cons, ih (UpK.cons.1 hA).2 hB]
    simp
  | case3 b B ih =>
    rw [List.mem_cons, ih hA (UpK.cons.1 hB).2]
    simp
  | case4 a A b B h ih =>
    obtain ⟨a1, a2⟩ := UpK.cons.1 hA
    obtain ⟨b1, b2⟩ := UpK.cons.1 hB
    rw [List.mem_cons, ih a2 hB]
    have hlt : ∀ y ∈ b :: B, lt (key a) (key y) = true := by
      intro y hy
      rcases List.mem_cons.1 hy with rfl | hy
      · exact h
      · exact O.trans _ _ _ h (b1 y hy)
    constructor
    · rintro (rfl | ⟨x, h1, h2, h3⟩ | ⟨y, h1, h2, h3⟩)
      · exact .inl ⟨a, List.mem_cons_self, rfl, fun y hy e => O.ne (hlt y hy) e.symm⟩
      · exact .inl ⟨x, List.mem_cons_of_mem _ h1, h2, h3⟩
      · refine .inr ⟨y, h1, h2, fun hm => ?_⟩
        rcases List.mem_cons.1 hm with rfl | hm
        · exact O.ne (hlt y h1) rfl
        · exact h3 hm
    · rintro (⟨x, h1, h2, h3⟩ | ⟨y, h1, h2, h3⟩)
      · rcases List.mem_cons.1 h1 with rfl | h1
        · exact .inl h2
        · exact .inr (.inl ⟨x, h1, h2, h3⟩)
      · exact .inr (.inr ⟨y, h1, h2, fun hm => h3 (List.mem_cons_of_mem _ hm)⟩)
  | case5 a A b B h h' ih =>
    obtain ⟨a1, a2⟩ := UpK.cons.1 hA
    obtain ⟨b1, b2⟩ := UpK.cons.1 hB
    rw [List.mem_cons, ih hA b2]
    have hlt : ∀ x ∈ a :: A, lt (key b) (key x) = true := by
      intro y hy
      rcases List.mem_cons.1 hy with rfl | hy
      · exact h'
      · exact O.trans _ _ _ h' (a1 y hy)
    constructor
    · rintro (rfl | ⟨x, h1, h2, h3⟩ | ⟨y, h1, h2, h3⟩)
      · exact .inr ⟨b, List.mem_cons_self, rfl, fun hm => O.ne (hlt b hm) rfl⟩
      · refine .inl ⟨x, h1, h2, fun y hy => ?_⟩
        rcases List.mem_cons.1 hy with rfl | hy
        · exact O.ne (hlt x h1)
        · exact h3 y hy
      · exact .inr ⟨y, List.mem_cons_of_mem _ h1, h2, h3⟩
    · rintro (⟨x, h1, h2, h3⟩ | ⟨y, h1, h2, h3⟩)
      · exact .inr (.inl ⟨x, h1, h2, fun y hy => h3 y (List.mem_cons_of_mem _ hy)⟩)
      · rcases List.mem_cons.1 h1 with rfl | h1
        · exact .inl h2
        · exact .inr (.inr ⟨y, h1, h2, h3⟩)
  | case6 a A b B h h' ih =>
    obtain ⟨a1, a2⟩ := UpK.cons.1 hA
    obtain ⟨b1, b2⟩ := UpK.cons.1 hB
    have hk : key a = key b := O.tri _ _ (by simpa using h) (by simpa using h')
    rw [List.mem_append, ih a2 b2]
    have hbA : b ∉ A := fun hm => O.ne (a1 b hm) hk
    have hx : ∀ x ∈ A, ∀ y, y = b → key y ≠ key x := by
      rintro x hx y rfl e
      exact O.ne (a1 x hx) (hk.trans e)
    have hy : ∀ y ∈ B, y ≠ a := by
      rintro y hy rfl
      exact O.ne (b1 y hy) hk.symm
    constructor
    · rintro (h0 | ⟨x, h1, h2, h3⟩ | ⟨y, h1, h2, h3⟩)
      · split at h0
        · cases h0
        · rename_i hv
          simp at h0; subst h0
          refine .inr ⟨b, List.mem_cons_self, rfl, fun hm => ?_⟩
          rcases List.mem_cons.1 hm with e | hm
          · exact hv (by rw [e])
          · exact hbA hm
      · refine .inl ⟨x, List.mem_cons_of_mem _ h1, h2, fun y hy => ?_⟩
        rcases List.mem_cons.1 hy with e | hy
        · exact hx x h1 y e
        · exact h3 y hy
      · refine .inr ⟨y, List.mem_cons_of_mem _ h1, h2, fun hm => ?_⟩
        rcases List.mem_cons.1 hm with e | hm
        · exact hy y h1 e
        · exact h3 hm
    · rintro (⟨x, h1, h2, h3⟩ | ⟨y, h1, h2, h3⟩)
      · rcases List.mem_cons.1 h1 with e | h1
        · exact absurd (hk.symm.trans (by rw [e])) (h3 b List.mem_cons_self)
        · exact .inr (.inl ⟨x, h1, h2, fun y hy => h3 y (List.mem_cons_of_mem _ hy)⟩)
      · rcases List.mem_cons.1 h1 with e | h1
        · subst e
          left
          have hv : a.v.data.toList ≠ y.v.data.toList := by
            intro hv
            exact h3 (by rw [itm_ext hk hv]; exact List.mem_cons_self)
          rw [if_neg hv]
          simpa using h2
        · exact .inr (.inr ⟨y, h1, h2, fun hm => h3 (List.mem_cons_of_mem _ hm)⟩)
theorem InDif.key {A B : List Itm} {c : Ch} (h : InDif A B c) : (∃ x ∈ A, ckey c = key x) ∨ ∃ y ∈ B, ckey c = key y := by
  rcases h with ⟨x, h1, rfl, _⟩ | ⟨y, h1, rfl, _⟩
  · exact .inl ⟨x, h1, rfl⟩
  · exact .inr ⟨y, h1, rfl⟩
theorem up_dif (A B : List Itm) (hA : UpK key A) (hB : UpK key B) : UpK Sc.key (dif A B) := by
  have hm := fun c A B hA hB => mem_dif c A B hA hB
  fun_induction dif A B with
  | case1 => exact UpK.nil
  | case2 a A ih =>
    obtain ⟨a1, a2⟩ := UpK.cons.1 hA
    refine UpK.cons.2 ⟨fun c hc => ?_, ih a2 hB⟩
    rcases ((hm c A [] a2 hB).1 hc).key with ⟨x, h1, h2⟩ | ⟨y, h1, h2⟩
    · rw [show Sc.key c = key x from h2]; exact a1 x h1
    · cases h1
  | case3 b B ih =>
    obtain ⟨b1, b2⟩ := UpK.cons.1 hB
    refine UpK.cons.2 ⟨fun c hc => ?_, ih hA b2⟩
    rcases ((hm c [] B hA b2).1 hc).key with ⟨x, h1, h2⟩ | ⟨y, h1, h2⟩
    · cases h1
    · rw [show Sc.key c = key y from h2]; exact b1 y h1
  | case4 a A b B h ih =>
    obtain ⟨a1, a2⟩ := UpK.cons.1 hA
    obtain ⟨b1, b2⟩ := UpK.cons.1 hB
    refine UpK.cons.2 ⟨fun c hc => ?_, ih a2 hB⟩
    rcases ((hm c A (b :: B) a2 hB).1 hc).key with ⟨x, h1, h2⟩ | ⟨y, h1, h2⟩
    · rw [show Sc.key c = key x from h2]; exact a1 x h1
    · rw [show Sc.key c = key y from h2]
      rcases List.mem_cons.1 h1 with rfl | h1
      · exact h
      · exact O.trans _ _ _ h (b1 y h1)
  | case5 a A b B h h' ih =>
    obtain ⟨a1, a2⟩ := UpK.cons.1 hA
    obtain ⟨b1, b2⟩ := UpK.cons.1 hB
    refine UpK.cons.2 ⟨fun c hc => ?_, ih hA b2⟩
    rcases ((hm c (a :: A) B hA b2).1 hc).key with ⟨x, h1, h2⟩ | ⟨y, h1, h2⟩
    · rw [show Sc.key c = key x from h2]
      rcases List.mem_cons.1 h1 with rfl | h1
      · exact h'
      · exact O.trans _ _ _ h' (a1 x h1)
    · rw [show Sc.key c = key y from h2]; exact b1 y h1
  | case6 a A b B h h' ih =>
    obtain ⟨a1, a2⟩ := UpK.cons.1 hA
    obtain ⟨b1, b2⟩ := UpK.cons.1 hB
    have hk : key a = key b := O.tri _ _ (by simpa using h) (by simpa using h')
    refine UpK.append.2 ⟨by split; exact UpK.nil; exact UpK.one _, ih a2 b2, ?_⟩
    intro x hx c hc
    have hxk : Sc.key x = key b := by
      split at hx
      · cases hx
      · simp at hx; subst hx; rfl
    rw [hxk]
    rcases ((hm c A B a2 b2).1 hc).key with ⟨z, h1, h2⟩ | ⟨y, h1, h2⟩
    · rw [show Sc.key c = key z from h2, ← hk]; exact a1 z h1
    · rw [show Sc.key c = key y from h2]; exact b1 y h1
theorem app_dif {A B : List Itm} (hA : UpK key A) (hB : UpK key B) : app A (dif A B) = B := by
  refine up_ext (up_app _ hA) hB fun x => ?_
  rw [mem_app]
  constructor
  · rintro (⟨h1, h2⟩ | ⟨c, h1, h2, rfl⟩)
    · refine Classical.byContradiction fun hx => ?_
      by_cases hex : ∃ y ∈ B, key y = key x
      · obtain ⟨y, hy, e⟩ := hex
        by_cases hyA : y ∈ A
        · have := up_inj hA hyA h1 e
          subst this; exact hx hy
        · exact h2 (there y) ((mem_dif _ A B hA hB).2 (.inr ⟨y, hy, rfl, hyA⟩)) e
      · exact h2 (gone x) ((mem_dif _ A B hA hB).2 (.inl ⟨x, h1, rfl, fun y hy e => hex ⟨y, hy, e⟩⟩)) rfl
    · rcases (mem_dif c A B hA hB).1 h1.mem with ⟨y, _, rfl, _⟩ | ⟨y, h3, rfl, _⟩
      · cases h2
      · exact h3
  · intro hx
    by_cases hxA : x ∈ A
    · refine .inl ⟨hxA, fun c hc e => ?_⟩
      rcases (mem_dif c A B hA hB).1 hc with ⟨y, h1, rfl, h3⟩ | ⟨y, h1, rfl, h3⟩
      · exact h3 x hx e.symm
      · have := up_inj hB h1 hx e
        subst this; exact h3 hxA
    · exact .inr ⟨there x, (up_lst (up_dif A B hA hB) _).2 ((mem_dif _ A B hA hB).2 (.inr ⟨x, hx, rfl, hxA⟩)), rfl, rfl⟩
theorem dif_self {A : List Itm} (hA : UpK key A) : dif A A = [] := by
  refine List.eq_nil_iff_forall_not_mem.2 fun c hc => ?_
  rcases (mem_dif c A A hA hA).1 hc with ⟨x, h1, _, h3⟩ | ⟨y, h1, _, h3⟩
  · exact h3 x h1 rfl
  · exact h3 h1
/-- each change between two lists changes something -/
theorem dif_few {A B : List Itm} (hA : UpK key A) (hB : UpK key B) {c : Ch} (hc : c ∈ dif A B) : app A [c] ≠ A := by
  intro e
  have hm : ∀ x, x ∈ don c A ↔ x ∈ A := fun x => by rw [show don c A = A from e]
  rcases (mem_dif c A B hA hB).1 hc with ⟨x, h1, rfl, h3⟩ | ⟨y, h1, rfl, h3⟩
  · rcases (mem_don _ x A).1 ((hm x).2 h1) with ⟨_, h4⟩ | ⟨h4, _⟩
    · exact h4 rfl
    · cases h4
  · exact h3 ((hm y).1 ((mem_don _ y A).2 (.inr ⟨rfl, rfl⟩)))
/-- what is apart is right -/
theorem rc_dif {A B : List Itm} (hA : rt A = true) (hB : rt B = true) : rc (dif A B) = true := by
  obtain ⟨a1, a2⟩ := rt_iff.1 hA
  obtain ⟨b1, b2⟩ := rt_iff.1 hB
  refine rc_iff.2 fun c hc => ?_
  rcases (mem_dif c A B a1 b1).1 hc with ⟨x, h1, rfl, h3⟩ | ⟨y, h1, rfl, h3⟩
  · have h := a2 x h1
    simp only [okI, Bool.and_eq_true] at h
    simp only [okC, gone, Bool.and_eq_true]
    exact ⟨h.1, rfl, by rw [ByteArray.toList_eq]; rfl⟩
  · have h := b2 y h1
    simp only [okI, Bool.and_eq_true] at h
    simp only [okC, there, Bool.and_eq_true]
    exact ⟨h.1, h.2, rfl⟩
/-! ## under a prefix -/
def pre (p : ByteArray) (x : Itm) : Bool := p.data.toList.isPrefixOf (key x)
def und (D : List Itm) (p : ByteArray) : List Itm := D.filter (pre p)
theorem bl_nil (a : List UInt8) : By.bl a [] = false := by cases a <;> rfl
theorem pre_ge : ∀ p a : List UInt8, p.isPrefixOf a = true → By.bl a p = false
  | [], a, _ => bl_nil a
  | x :: p, [], h => by cases h
  | x :: p, y :: a, h => by
    have h' : (x == y && p.isPrefixOf a) = true := h
    rw [Bool.and_eq_true] at h'
    have e : x = y := by simpa using h'.1
    subst e
    rw [Bool.eq_false_iff]
    intro h2
    rcases (By.bl_cons _ _ _ _).1 h2 with h3 | ⟨_, h3⟩
    · exact By.u8_irrefl h3
    · rw [pre_ge p a h'.2] at h3; cases h3
theorem pre_mid : ∀ p a b : List UInt8, By.bl a p = false → By.bl a b = true → p.isPrefixOf b = true → p.isPrefixOf a = true
  | [], _, _, _, _, _ => rfl
  | x :: p, a, [], _, _, h => by cases h
  | x :: p, [], y :: b, h, _, _ => by cases h
  | x :: p, z :: a, y :: b, h1, h2, h3 => by
    have h' : (x == y && p.isPrefixOf b) = true := h3
    rw [Bool.and_eq_true] at h'
    have e : x = y := by simpa using h'.1
    subst e
    have n1 : ¬ (z < x ∨ (z = x ∧ By.bl a p = true)) := fun e => by rw [(By.bl_cons z x a p).2 e] at h1; cases h1
    rcases (By.bl_cons _ _ _ _).1 h2 with h4 | ⟨rfl, h4⟩
    · exact absurd (.inl h4) n1
    · have : By.bl a p = false := by
        rw [Bool.eq_false_iff]; exact fun e => n1 (.inr ⟨rfl, e⟩)
      show (z == z && p.isPrefixOf a) = true
      rw [pre_mid p a b this h4 h'.2]
      simp
/-- what is under a prefix stands in one piece, from its place on -/
theorem und_piece {D : List Itm} {p : ByteArray} {i : Nat} (hD : UpK key D) (h : At D p i) : und D p = (D.drop i).takeWhile (pre p) := by
  obtain ⟨h1, h2, h3⟩ := h
  unfold und
  have e0 : D.filter (pre p) = (D.take i).filter (pre p) ++ (D.drop i).filter (pre p) := by rw [← List.filter_append, List.take_append_drop]
  have e1 : (D.take i).filter (pre p) = [] := by
    refine List.filter_eq_nil_iff.2 fun x hx hp => ?_
    have := pre_ge _ _ hp
    rw [show By.bl (key x) p.data.toList = true from h2 x hx] at this
    cases this
  rw [e0, e1, List.nil_append]
  have hu : UpK key (D.drop i) := hD.sub (List.drop_sublist _ _)
  clear e0 e1
  generalize D.drop i = E at *
  induction E with
  | nil => rfl
  | cons x E ih =>
    obtain ⟨u1, u2⟩ := UpK.cons.1 hu
    by_cases hx : pre p x = true
    · rw [List.filter_cons_of_pos hx, List.takeWhile_cons_of_pos hx]
      rw [ih (fun y hy => h3 y (List.mem_cons_of_mem _ hy)) u2]
    · rw [List.takeWhile_cons_of_neg hx, List.filter_cons_of_neg hx]
      refine List.filter_eq_nil_iff.2 fun y hy hp => hx ?_
      exact pre_mid _ _ _ (h3 x List.mem_cons_self) (u1 y hy) hp
theorem und_ok {D : List Itm} (p : ByteArray) (h : rt D = true) : rt (und D p) = true := by
  obtain ⟨h1, h2⟩ := rt_iff.1 h
  exact rt_of (h1.sub List.filter_sublist) fun x hx => h2 x (List.mem_filter.1 hx).1
theorem und_none (D : List Itm) : und D { data := #[] } = D := by
  unfold und
  exact List.filter_eq_self.2 fun x _ => rfl
end Go.Proofs.YtjkmfonngbendaaGreatDoor.It
/- Items and changes appended to a slice of the call's own; contract of the document's Same. -/
namespace Go.Proofs.YtjkmfonngbendaaGreatDoor.It
set_option linter.unusedVariables false
set_option maxRecDepth 100000
open Go.ChangeShapes Go.WideShapes Go.ChangeAt Go.RowKit
open Ar Rg St
open BigFrame
theorem enc_one (x : Itm) : ∀ u ∈ enc x, u.oneCell' = true := by
  intro v hv
  simp [enc] at hv
  rcases hv with rfl | rfl <;> rfl
theorem infoI : (Tryz.prog.info? 82).map (fun i => (i.zero, i.size, i.bytes)) = some (some (.agg #[.string ByteArray.empty, .string ByteArray.empty]), 2, 32) := by kernel_rfl
theorem infoC : (Tryz.prog.info? 41).map (fun i => (i.zero, i.size, i.bytes)) = some (some (.agg #[.string ByteArray.empty, .bool false, .string ByteArray.empty]), 3, 40) := by kernel_rfl
/-- of the call's own: items, changes -/
abbrev MkI (w wr : World) (v : Value) (D : List Itm) : Prop := Mk enc 2 82 w wr v D
abbrev MkC (w wr : World) (v : Value) (D : List Ch) : Prop := Mk Sc.enc 3 41 w wr v D
theorem catI {ops : Array Oper} {rest : List Oper} {o : Oper} {a : Act} {Q : Exit → Act → World → Prop} {w wr : World} {v : Value} {D : List Itm} (hM : MkI w wr v D) (E : List Itm) (A : Option Addr) (m c : Nat) {B : Nat} (hm : m = E.length) (hL : Ls enc 2 wr B A E) (hlen : D.length + m ≤ 4398046511104)
    (hgd : o.guard = none) (s x : Operand) (ho : o.op = .call { callee := .builtin .append, args := #[s, x], argTypes := #[42, 42] }) (hs : a.eval s = v) (hx : a.eval x = .slice A m c)
    (h : ∀ v' w', MkI w w' v' (D ++ E) → wr.grownBy w' v.ownBlock → wpList Tryz.prog ops Q rest (a.put o.dst v') w') : wpList Tryz.prog ops Q (o :: rest) a wr := by
  obtain ⟨i0, hi, hz0, hz1, hz2⟩ := info_parts infoI
  exact wpList_cat 42 i0 _ 32 Tryz.underlying42 hi hz0 hz1 hz2 rfl (by decide) enc_len enc_one hM m c hm hL (by unfold maxLen; omega) (by omega) hgd s x ho hs hx h
theorem catC {ops : Array Oper} {rest : List Oper} {o : Oper} {a : Act} {Q : Exit → Act → World → Prop} {w wr : World} {v : Value} {D : List Ch} (hM : MkC w wr v D) (E : List Ch) (A : Option Addr) (m c : Nat) {B : Nat} (hm : m = E.length) (hL : Ls Sc.enc 3 wr B A E) (hlen : D.length + m ≤ 3518437208883)
    (hgd : o.guard = none) (s x : Operand) (ho : o.op = .call { callee := .builtin .append, args := #[s, x], argTypes := #[24, 24] }) (hs : a.eval s = v) (hx : a.eval x = .slice A m c)
    (h : ∀ v' w', MkC w w' v' (D ++ E) → wr.grownBy w' v.ownBlock → wpList Tryz.prog ops Q rest (a.put o.dst v') w') : wpList Tryz.prog ops Q (o :: rest) a wr := by
  obtain ⟨i0, hi, hz0, hz1, hz2⟩ := info_parts infoC
  exact wpList_cat 24 i0 _ 40 Tryz.underlying24 hi hz0 hz1 hz2 rfl (by decide) Sc.enc_len Sc.enc_one hM m c hm hL (by unfold maxLen; omega) (by omega) hgd s x ho hs hx h
/-! ## Same -/
def eqI (a b : Itm) : Bool := decide (key a = key b) && decide (a.v.data.toList = b.v.data.toList)
theorem eqI_iff {a b : Itm} : eqI a b = true ↔ a = b := by
  unfold eqI
  rw [Bool.and_eq_true, decide_eq_true_iff, decide_eq_true_iff]
  exact ⟨fun h => itm_ext h.1 h.2, fun h => by subst h; exact ⟨rfl, rfl⟩⟩
def sm : List Itm → List Itm → Bool
  | [], [] => true
  | a :: A, b :: B => eqI a b && sm A B
  | _, _ => false
theorem sm_iff : ∀ {A B : List Itm}, sm A B = true ↔ A = B
  | [], [] => by simp [sm]
  | [], _ :: _ => by simp [sm]
  | _ :: _, [] => by simp [sm]
  | a :: A, b :: B => by
    rw [sm, Bool.and_eq_true, eqI_iff, sm_iff, List.cons.injEq]
theorem sm_no {A B : List Itm} (h : A ≠ B) : sm A B = false := by
  rw [Bool.eq_false_iff]; exact fun e => h (sm_iff.1 e)
theorem take_more {α : Type} {D E : List α} {i : Nat} {x : α} (h : D.take i = E.take i) (hx : D[i]? = some x) (hy : E[i]? = some x) : D.take (i + 1) = E.take (i + 1) := by
  rw [List.take_add_one, List.take_add_one, h, hx, hy]
set_option maxRecDepth 100000 in
set_option maxHeartbeats 1000000 in
theorem same_any (D E : List Itm) (A A' : Option Addr) (n c n' c' B B' : Nat) (hn : n = D.length) (hn' : n' = E.length) (hm : n ≤ 281474976710656) (w : World) (hB : B ≤ w.heap.size) (hB' : B' ≤ w.heap.size) (hD : Ls enc 2 w B A D) (hE : Ls enc 2 w B' A' E) :
    Calls Tryz.prog 30 #[.slice A n c, .slice A' n' c'] w fun e w' => e = .returned (.bool (sm D E)) ∧ Below w.heap.size w w' := by
  have HN := Lib.hid hn
  have HN' := Lib.hid hn'
  have HD := Lib.hid hD
  have HE := Lib.hid hE
  clear hn hn' hD hE
  by_cases hl : n = n'
  · subst hl
    go_enter Tryz.func30, Tryz.ntmps30
    go_wp2_with fail
    go_loopw [13] (fun v wr => ∃ i : Nat, i ≤ n ∧ v = .int .i64 i ∧ Hid (D.take i = E.take i) ∧ Hid (Below w.heap.size w wr)) (fun v _ => n - (intOf v).toNat)
    case atStart => exact ⟨0, Nat.zero_le _, by go_num, rfl, Below.refl _ _⟩
    case round =>
      obtain ⟨i, hi, rfl, htk, hbel⟩ := hrel
      by_cases hlt : i < n
      · obtain ⟨x, hx⟩ : ∃ x, D[i]? = some x := ⟨_, List.getElem?_eq_getElem (by rw [← HN.out]; exact hlt)⟩
        obtain ⟨y, hy⟩ : ∃ y, E[i]? = some y := ⟨_, List.getElem?_eq_getElem (by rw [← HN'.out]; exact hlt)⟩
        obtain ⟨b, o, hAe, hb, hr⟩ := (HD.out.below ((Hid.out hbel).mono hB)) i x hx
        obtain ⟨b', o', hAe', hb', hr'⟩ := (HE.out.below ((Hid.out hbel).mono hB')) i y hy
        have hc0 : wr.cell? ⟨b, o + i * 2, none⟩ = some (.string x.k) := hr 0 _ rfl
        have hc1 : wr.cell? ⟨b, o + i * 2 + 1, none⟩ = some (.string x.v) := hr 1 _ rfl
        have hd0 : wr.cell? ⟨b', o' + i * 2, none⟩ = some (.string y.k) := hr' 0 _ rfl
        have hd1 : wr.cell? ⟨b', o' + i * 2 + 1, none⟩ = some (.string y.v) := hr' 1 _ rfl
        clear hr hr'
        subst hAe hAe'
        by_cases hk : key x = key y
        · have he0 : (x.k.toList == y.k.toList) = true := by rw [str_eq]; exact decide_eq_true hk
          by_cases hv : x.v.data.toList = y.v.data.toList
          · have he1 : (x.v.toList == y.v.toList) = true := by rw [str_eq]; exact decide_eq_true hv
            have HT := Lib.hid (take_more (Hid.out htk) hx ((itm_ext hk hv) ▸ hy))
            clear htk hx hy hk hv
            go_wp2_with fail
            go_big_quiet (fail)
            have HB2 := Lib.hid (below_drewN (Hid.out hbel) nq)
            clear hbel
            generalize World.drewN _ _ = W2 at *
            go_wp2
            exact ⟨⟨i + 1, by omega, by go_num, HT.out, HB2.out⟩, by simp [intOf] <;> omega⟩
          · have he1 : (x.v.toList == y.v.toList) = false := by rw [str_eq]; exact decide_eq_false hv
            have HF := Lib.hid (sm_no (A := D) (B := E) fun e => hv (by rw [e, hy] at hx; cases hx; rfl))
            clear htk hx hy hk hv
            go_wp2_with fail
            go_big_quiet (fail)
            have HB2 := Lib.hid (below_drewN (Hid.out hbel) nq)
            clear hbel
            generalize World.drewN _ _ = W2 at *
            go_wp2
            go_ret
            exact ⟨by rw [HF.out]; rfl, HB2.out⟩
        · have he0 : (x.k.toList == y.k.toList) = false := by rw [str_eq]; exact decide_eq_false hk
          have HF := Lib.hid (sm_no (A := D) (B := E) fun e => hk (by rw [e, hy] at hx; cases hx; rfl))
          clear htk hx hy hk
          go_wp2_with fail
          go_big_quiet (fail)
          have HB2 := Lib.hid (below_drewN (Hid.out hbel) nq)
          clear hbel
          generalize World.drewN _ _ = W2 at *
          go_wp2
          go_ret
          exact ⟨by rw [HF.out]; rfl, HB2.out⟩
      · have HT := Lib.hid (show sm D E = true from sm_iff.2 (by
          have h := Hid.out htk
          rwa [List.take_of_length_le (by rw [← HN.out]; omega), List.take_of_length_le (by rw [← HN'.out]; omega)] at h))
        go_wp2
        go_ret
        exact ⟨by rw [HT.out]; rfl, Hid.out hbel⟩
  · have hne : ((n : Int) != (n' : Int)) = true := by rw [bne_iff_ne]; omega
    have HF := Lib.hid (sm_no (A := D) (B := E) fun e => hl (by rw [HN.out, HN'.out, e]))
    go_enter Tryz.func30, Tryz.ntmps30
    go_wp2
    go_ret
    exact ⟨by rw [HF.out]; rfl, Below.refl _ _⟩
end Go.Proofs.YtjkmfonngbendaaGreatDoor.It
/- Contracts of package strings' HasPrefix and of package item's Under. -/
namespace Go.Proofs.YtjkmfonngbendaaGreatDoor.It
set_option linter.unusedVariables false
set_option maxRecDepth 100000
open Go.ChangeShapes Go.WideShapes Go.ChangeAt Go.RowKit
open Ar Rg St
open BigFrame
theorem up_srt {D : List Itm} (h : UpK key D) : Srt key lt D := Up.srt h
theorem pre_take : ∀ p s : List UInt8, p.isPrefixOf s = (decide (p.length ≤ s.length) && decide (s.take p.length = p))
  | [], s => by simp
  | x :: p, [] => by simp
  | x :: p, y :: s => by
    show (x == y && p.isPrefixOf s) = _
    rw [pre_take p s]
    by_cases h : x = y
    · subst h
      simp
    · have h2 : ¬ y = x := fun e => h e.symm
      simp [h, h2]
def pfx (p s : ByteArray) : Bool := p.data.toList.isPrefixOf s.data.toList
theorem litePrefix_any (s p : ByteArray) (hs : s.size ≤ 9223372036854775807) (hp : p.size ≤ 9223372036854775807) (w : World) :
    Calls Tryz.prog 161 #[.string s, .string p] w fun e w' => e = .returned (.bool (pfx p s)) ∧ w = w' := by
  have hl : s.data.toList.length = s.size := by simp
  have hl2 : p.data.toList.length = p.size := by simp
  obtain ⟨q, hq⟩ : ∃ q, pfx p s = q := ⟨_, rfl⟩
  rw [hq]
  rw [pfx, pre_take, hl, hl2] at hq
  by_cases h : p.size ≤ s.size
  · have h1 : decide ((p.size : Int) ≤ (s.size : Int)) = true := by rw [decide_eq_true_iff]; omega
    have he : ((s.extract 0 p.size).toList == p.toList) = q := by
      rw [← hq, decide_eq_true h, Bool.true_and, str_eq]
      refine decide_eq_decide.2 ?_
      rw [ByteArray.data_extract]
      simp
    clear hq hl hl2
    go_enter Tryz.func161, Tryz.ntmps161
    go_wp2
    go_ret
    exact ⟨rfl, rfl⟩
  · have h1 : decide ((p.size : Int) ≤ (s.size : Int)) = false := by rw [decide_eq_false_iff_not]; omega
    have hq' : q = false := by rw [← hq, decide_eq_false h]; rfl
    subst hq'
    clear hq hl hl2
    go_enter Tryz.func161, Tryz.ntmps161
    go_wp2
    go_ret
    exact ⟨rfl, rfl⟩
theorem hasPrefix_any (s p : ByteArray) (hs : s.size ≤ 9223372036854775807) (hp : p.size ≤ 9223372036854775807) (w : World) :
    Calls Tryz.prog 118 #[.string s, .string p] w fun e w' => e = .returned (.bool (pfx p s)) ∧ w = w' := by
  have HC := Lib.hid (litePrefix_any s p hs hp w)
  go_enter Tryz.func118, Tryz.ntmps118
  go_wp2_with (go_at_call 161; refine HC.out.mono ?_; rintro e w' ⟨rfl, rfl⟩)
  go_ret
  exact ⟨rfl, rfl⟩
/-- how far what is under the prefix goes -/
def AtU (D : List Itm) (p : ByteArray) (i e : Nat) : Prop := i ≤ e ∧ ∀ x ∈ (D.drop i).take (e - i), pre p x = true
theorem AtU.more {D : List Itm} {p : ByteArray} {i e : Nat} {x : Itm} (h : AtU D p i e) (hx : D[e]? = some x) (hp : pre p x = true) : AtU D p i (e + 1) := by
  obtain ⟨h1, h2⟩ := h
  refine ⟨by omega, fun y hy => ?_⟩
  rw [show e + 1 - i = (e - i) + 1 by omega, List.take_add_one] at hy
  rcases List.mem_append.1 hy with hy | hy
  · exact h2 y hy
  · rw [List.getElem?_drop, show i + (e - i) = e by omega, hx] at hy
    simp at hy; subst hy; exact hp
theorem takeWhile_of {α : Type} (p : α → Bool) : ∀ (l : List α) (k : Nat), (∀ x ∈ l.take k, p x = true) → (l.length ≤ k ∨ ∃ y, l[k]? = some y ∧ p y = false) → l.takeWhile p = l.take k
  | [], k, _, _ => by simp
  | x :: l, 0, _, h => by
    rcases h with h | ⟨y, h1, h2⟩
    · simp at h
    · simp at h1; subst h1
      rw [List.takeWhile_cons_of_neg (by simp [h2])]; rfl
  | x :: l, k + 1, h, h' => by
    have hx : p x = true := h x (by rw [List.take_succ_cons]; exact List.mem_cons_self)
    rw [List.takeWhile_cons_of_pos hx, List.take_succ_cons, takeWhile_of p l k (fun y hy => h y (by rw [List.take_succ_cons]; exact List.mem_cons_of_mem _ hy)) (by
      rcases h' with h' | ⟨y, h1, h2⟩
      · left; simpa using h'
      · right; exact ⟨y, by simpa using h1, h2⟩)]
theorem AtU.done {D : List Itm} {p : ByteArray} {i e : Nat} (hD : UpK key D) (hp : At D p i) (h : AtU D p i e) (hx : D.length ≤ e ∨ ∃ y, D[e]? = some y ∧ pre p y = false) : (D.drop i).take (e - i) = und D p := by
  rw [und_piece hD hp]
  refine (takeWhile_of _ _ _ h.2 ?_).symm
  have := h.1
  rcases hx with hx | ⟨y, h1, h2⟩
  · left; rw [List.length_drop]; omega
  · right; exact ⟨y, by rw [List.getElem?_drop, show i + (e - i) = e by omega]; exact h1, h2⟩
def er (b : Bool) : Int := if b then 0 else 4
theorem okI_sizes {D : List Itm} (h : rt D = true) {i : Nat} {x : Itm} (hx : D[i]? = some x) : x.k.size ≤ 48 ∧ x.v.size ≤ 160 := by
  have := (rt_iff.1 h).2 x (List.mem_of_getElem? hx)
  simp only [okI, okKey, Bool.and_eq_true, decide_eq_true_iff] at this
  exact ⟨this.1.2, this.2⟩
set_option maxRecDepth 100000 in
set_option maxHeartbeats 1000000 in
theorem under_any (D : List Itm) (p : ByteArray) (hps : p.size ≤ 9223372036854775807) (A : Option Addr) (n c B : Nat) (hn : n = D.length) (hc : n ≤ c) (hcm : c ≤ maxLen) (hlen : n ≤ 4398046511104) (w : World) (hB : B ≤ w.heap.size) (hD : Ls enc 2 w B A D) :
    Calls Tryz.prog 69 #[.slice A n c, .string p] w fun e w' => ∃ v, e = .returned (.tuple #[v, .int .i64 (er (rt D))]) ∧ MkI w w' v (if rt D then und D p else []) := by
  unfold maxLen at hcm
  have HN := Lib.hid hn
  have HD := Lib.hid hD
  have HC := Lib.hid (rightList_any D A n c B hn (by omega) w hB hD)
  clear hn hD
  cases hrt : rt D
  · rw [hrt] at HC
    go_enter Tryz.func69, Tryz.ntmps69
    go_wp2_with (go_at_call 41; refine HC.out.mono ?_; rintro e w1 ⟨rfl, hb1⟩; have HB1 := Lib.hid hb1; clear hb1)
    go_ret2
    exact ⟨_, rfl, Mk.nil HB1.out⟩
  · have HR := Lib.hid hrt
    rw [hrt] at HC
    clear hrt
    go_enter Tryz.func69, Tryz.ntmps69
    go_wp2_with fail
    go_at_call 41
    refine HC.out.mono ?_
    rintro e w1 ⟨rfl, hb1⟩
    have HB1 := Lib.hid hb1
    clear hb1 HC
    go_wp2_with fail
    go_at_call 82
    refine (place_any D p A n c B HN.out (by omega) (up_srt (rt_iff.1 HR.out).1) w1 (Nat.le_trans hB HB1.out.size) (HD.out.below (HB1.out.mono hB))).mono ?_
    rintro e w2 ⟨f, hf, rfl, hb2⟩
    have hfn : f ≤ n := by rw [HN.out]; exact hf.1
    have HF := Lib.hid hf
    have HB2 := Lib.hid (HB1.out.trans (hb2.mono HB1.out.size))
    clear hb2 HB1 hf
    obtain ⟨A1, hif⟩ : ∃ A1, (if c = f then A else Option.map (fun x => x.add (f * 2)) A) = A1 := ⟨_, rfl⟩
    have HL1 := Lib.hid (show Ls enc 2 w B A1 (D.drop f) from hif ▸ HD.out.drop HN.out hc hfn)
    go_wp2_with fail
    go_loopw [8] (fun v wr => ∃ e : Nat, f ≤ e ∧ e ≤ n ∧ v = .int .i64 e ∧ Hid (AtU D p f e) ∧ Hid (Below w.heap.size w wr)) (fun v _ => n - (intOf v).toNat)
    case atStart => exact ⟨f, Nat.le_refl _, hfn, by go_num, ⟨Nat.le_refl _, by simp⟩, HB2.out⟩
    case round =>
      obtain ⟨e, hfe, hen, rfl, hat, hbel⟩ := hrel
      by_cases hlt : e < n
      · obtain ⟨x, hx⟩ : ∃ x, D[e]? = some x := ⟨_, List.getElem?_eq_getElem (by rw [← HN.out]; exact hlt)⟩
        obtain ⟨b, o, hAe, hb, hr⟩ := (HD.out.below ((Hid.out hbel).mono hB)) e x hx
        have hbs : b < wr.heap.size := Nat.lt_of_lt_of_le hb (Nat.le_trans hB (Hid.out hbel).size)
        have hc0 : wr.cell? ⟨b, o + e * 2, none⟩ = some (.string x.k) := hr 0 _ rfl
        clear hr
        subst hAe
        obtain ⟨q, hq⟩ : ∃ q, pfx p x.k = q := ⟨_, rfl⟩
        have hqc := hasPrefix_any x.k p (by have := (okI_sizes HR.out hx).1; omega) hps
        rw [hq] at hqc
        have HQC := Lib.hid hqc
        clear hqc
        cases q
        · have HU := Lib.hid (show (D.drop f).take (e - f) = und D p from (Hid.out hat).done (rt_iff.1 HR.out).1 HF.out (.inr ⟨x, hx, hq⟩))
          have hA1 : A1 = some ⟨b, o + f * 2, none⟩ := by rw [← hif, if_neg (by omega), Option.map_some, Ar.add_plain]
          clear hif
          subst hA1
          clear hat hx hq
          have HLL := Lib.hid (show e - f = ((D.drop f).take (e - f)).length by rw [List.length_take, List.length_drop, ← HN.out]; omega)
          go_wp2_with (first
            | (go_at_call 118; refine (HQC.out _).mono ?_; rintro e w3 ⟨rfl, rfl⟩)
            | (at_builtin; refine catI (Mk.nil (Hid.out hbel)) ((D.drop f).take (e - f)) _ (e - f) _ HLL.out ((HL1.out.take (e - f)).below ((Hid.out hbel).mono hB)) (by simp; omega) rfl _ _ rfl rfl rfl ?_; intro v3 w3 hM3 hG3; have HM3 := Lib.hid hM3; clear hM3 hG3))
          go_ret2
          refine ⟨_, rfl, ?_⟩
          have := HM3.out
          rw [List.nil_append, HU.out] at this
          exact this
        · have HA := Lib.hid ((Hid.out hat).more hx hq)
          clear hat hx hq
          go_wp2_with (go_at_call 118; refine (HQC.out _).mono ?_; rintro e w3 ⟨rfl, rfl⟩)
          exact ⟨⟨e + 1, by omega, by omega, by go_num, HA.out, Hid.out hbel⟩, by simp [intOf] <;> omega⟩
      · have HU := Lib.hid (show (D.drop f).take (e - f) = und D p from (Hid.out hat).done (rt_iff.1 HR.out).1 HF.out (.inl (by rw [← HN.out]; omega)))
        have HLL := Lib.hid (show e - f = ((D.drop f).take (e - f)).length by rw [List.length_take, List.length_drop, ← HN.out]; omega)
        clear hat
        go_wp2_with (at_builtin; refine catI (Mk.nil (Hid.out hbel)) ((D.drop f).take (e - f)) _ (e - f) _ HLL.out ((HL1.out.take (e - f)).below ((Hid.out hbel).mono hB)) (by simp; omega) rfl _ _ rfl rfl rfl ?_; intro v3 w3 hM3 hG3; have HM3 := Lib.hid hM3; clear hM3 hG3)
        go_ret2
        refine ⟨_, rfl, ?_⟩
        have := HM3.out
        rw [List.nil_append, HU.out] at this
        exact this
end Go.Proofs.YtjkmfonngbendaaGreatDoor.It
/- Contract of package item's changed: a list with changes done that rise by key. -/
namespace Go.Proofs.YtjkmfonngbendaaGreatDoor.It
set_option linter.unusedVariables false
set_option maxRecDepth 100000
open Go.ChangeShapes Go.WideShapes Go.ChangeAt Go.RowKit
open Ar Rg St
open BigFrame
/-- what is left of the list and of the changes, what has been put -/
def AtA (D : List Itm) (L : List Ch) (i : Nat) (R O : List Itm) : Prop := UpK key R ∧ O ++ app R (L.drop i) = app D L ∧ R.length + O.length ≤ D.length + i
theorem AtA.step {D R O : List Itm} {L : List Ch} {i p : Nat} {c : Ch} (h : AtA D L i R O) (hL : UpK Sc.key L) (hc : L[i]? = some c) (hp : At R c.k p) :
    AtA D L (i + 1) (R.drop (p + if found R c.k p then 1 else 0)) (O ++ R.take p ++ (if c.h then [itm c] else [])) := by
  obtain ⟨h1, h2, h3⟩ := h
  refine ⟨h1.sub (List.drop_sublist _ _), ?_, ?_⟩
  · rw [← h2, drop_atC hc, app_step h1 (by rw [← drop_atC hc]; exact hL.sub (List.drop_sublist _ _)) hp]
    simp only [List.append_assoc]
  · have : (if c.h then [itm c] else []).length ≤ 1 := by split <;> simp
    have hp1 := hp.1
    simp only [List.length_drop, List.length_append, List.length_take]
    omega
theorem found_lt {R : List Itm} {k : ByteArray} {p : Nat} (h : found R k p = true) : p < R.length := by
  unfold found at h
  cases hx : R[p]? with
  | none => rw [hx] at h; cases h
  | some y => exact (List.getElem?_eq_some_iff.1 hx).1
set_option linter.unusedSimpArgs false in
set_option maxRecDepth 100000 in
set_option maxHeartbeats 2000000 in
theorem changed_any (D : List Itm) (L : List Ch) (A A' : Option Addr) (n c n' c' B B' : Nat) (hn : n = D.length) (hc : n ≤ c) (hcm : c ≤ maxLen) (hn' : n' = L.length) (hlen : n ≤ 1099511627776) (hlen' : n' ≤ 1099511627776) (hD : UpK key D) (hL : UpK Sc.key L)
    (w : World) (hB : B ≤ w.heap.size) (hB' : B' ≤ w.heap.size) (hA : Ls enc 2 w B A D) (hA' : Ls Sc.enc 3 w B' A' L) :
    Calls Tryz.prog 43 #[.slice A n c, .slice A' n' c'] w fun e w' => ∃ v, e = .returned v ∧ MkI w w' v (app D L) := by
  unfold maxLen at hcm
  have HN' := Lib.hid hn'
  have HD := Lib.hid hD
  have HDL := Lib.hid (show D.length ≤ 1099511627776 by omega)
  have HL := Lib.hid hL
  have HA' := Lib.hid hA'
  have H0 := Lib.hid (show n = D.length ∧ n ≤ c ∧ c ≤ 9223372036854775807 ∧ Ls enc 2 w B A D from ⟨hn, hc, hcm, hA⟩)
  clear hn hn' hD hL hA hA' hc hcm
  go_enter Tryz.func43, Tryz.ntmps43
  go_wp2_with fail
  go_loopw [0, 5, 12] (fun lv ov v wr => ∃ (i : Nat) (R O : List Itm) (A : Option Addr) (n c : Nat), i ≤ n' ∧ v = .int .i64 i ∧ lv = .slice A n c ∧ Hid (n = R.length ∧ n ≤ c ∧ c ≤ 9223372036854775807 ∧ Ls enc 2 w B A R) ∧ Hid (AtA D L i R O) ∧ Hid (MkI w wr ov O)) (fun _ _ v _ => n' - (intOf v).toNat)
  case atStart => exact ⟨0, D, [], A, n, c, Nat.zero_le _, by go_num, rfl, H0.out, ⟨HD.out, rfl, by simp⟩, Mk.nil (Below.refl _ _)⟩
  case round =>
    clear H0
    obtain ⟨i, R, O, A, n, c, hi, rfl, rfl, hl, hat, hm⟩ := hrel
    by_cases hlt : i < n'
    · obtain ⟨x, hx⟩ : ∃ x, L[i]? = some x := ⟨_, List.getElem?_eq_getElem (by rw [← HN'.out]; exact hlt)⟩
      obtain ⟨b, o, hAe, hb, hr⟩ := (HA'.out.below ((Hid.out hm).2.mono hB')) i x hx
      have hbs : b < wr.heap.size := Nat.lt_of_lt_of_le hb (Nat.le_trans hB' (Hid.out hm).2.size)
      have hc0 : wr.cell? ⟨b, o + i * 3, none⟩ = some (.string x.k) := hr 0 _ rfl
      have hc1 : wr.cell? ⟨b, o + i * 3 + 1, none⟩ = some (.bool x.h) := hr 1 _ rfl
      have hc2 : wr.cell? ⟨b, o + i * 3 + 2, none⟩ = some (.string x.v) := hr 2 _ rfl
      clear hr
      subst hAe
      have HM := Lib.hid (show MkI w (wr.alloc (.cells #[.string x.k, .bool x.h, .string x.v] 41)) _ O from (Hid.out hm).alloc _)
      have hd0 : (wr.alloc (.cells #[.string x.k, .bool x.h, .string x.v] 41)).cell? ⟨wr.heap.size, 0, none⟩ = some (.string x.k) := by simp
      have hd1 : (wr.alloc (.cells #[.string x.k, .bool x.h, .string x.v] 41)).cell? ⟨wr.heap.size, 1, none⟩ = some (.bool x.h) := by simp
      have hd2 : (wr.alloc (.cells #[.string x.k, .bool x.h, .string x.v] 41)).cell? ⟨wr.heap.size, 2, none⟩ = some (.string x.v) := by simp
      have hncc := (Hid.out hl).2.1
      have hcm := (Hid.out hl).2.2.1
      go_wp2_with fail
      go_at_call 82
      refine (place_any R x.k A n c B (Hid.out hl).1 (by have := (Hid.out hl).1; have := (Hid.out hat).2.2; have := HN'.out; have := HDL.out; omega) (up_srt (Hid.out hat).1) _ (by have := (Hid.out hm).2.size; simp; omega) ((Hid.out hl).2.2.2.below ((Hid.out HM.out).2.mono hB))).mono ?_
      rintro e w2 ⟨p, hp, rfl, hb2⟩
      have HM2 := Lib.hid (HM.out.go hb2)
      have hpn : p ≤ n := by rw [(Hid.out hl).1]; exact hp.1
      have HP := Lib.hid hp
      have hlt2 : wr.heap.size < w2.heap.size := by have := hb2.size; simp at this; omega
      have he0 : w2.cell? ⟨wr.heap.size, 0, none⟩ = some (.string x.k) := (hb2.cell (p := ⟨wr.heap.size, 0, none⟩) (by simp)).trans hd0
      have he1 : w2.cell? ⟨wr.heap.size, 1, none⟩ = some (.bool x.h) := (hb2.cell (p := ⟨wr.heap.size, 1, none⟩) (by simp)).trans hd1
      have he2 : w2.cell? ⟨wr.heap.size, 2, none⟩ = some (.string x.v) := (hb2.cell (p := ⟨wr.heap.size, 2, none⟩) (by simp)).trans hd2
      clear hb2 HM hp hd0 hd1 hd2 hc0 hc1 hc2
      have hop : O.length + n ≤ 2199023255552 := by
        have h1 := (Hid.out hl).1
        have h2 := (Hid.out hat).2.2
        have h3 := HDL.out
        omega
      have htl : (R.take p).length = p := by rw [List.length_take]; have := (Hid.out hl).1; omega
      have HTL := Lib.hid htl.symm
      clear htl
      obtain ⟨A1, hif⟩ : ∃ A1, (if c = p then A else Option.map (fun x => x.add (p * 2)) A) = A1 := ⟨_, rfl⟩
      have HL1 := Lib.hid (show Ls enc 2 w B A1 (R.drop p) from hif ▸ (Hid.out hl).2.2.2.drop (Hid.out hl).1 hncc hpn)
      have hst := (Hid.out hat).step HL.out hx HP.out
      by_cases hf : found R x.k p = true
      · have hp1 : p < n := by rw [(Hid.out hl).1]; exact found_lt hf
        have hone : (1 : Int) ≤ ((n - p : Nat) : Int) := by omega
        rw [if_neg (by omega)] at hif
        obtain ⟨A2, hif2⟩ : ∃ A2, (if c - p = 1 then A1 else Option.map (fun x => ({ block := x.block, off := x.off + 2 } : Addr)) A1) = A2 := ⟨_, rfl⟩
        have HL2 := Lib.hid (show Ls enc 2 w B A2 (R.drop (p + 1)) from by
          rw [← hif2, ← List.drop_drop]
          exact HL1.out.drop (n := n - p) (c := c - p) (p := 1) (by rw [List.length_drop, ← (Hid.out hl).1]) (by omega) (by omega))
        by_cases hh : x.h = true
        · rw [hh] at he1
          simp only [hf, hh, if_true, Bool.false_eq_true, if_false, Nat.add_zero, List.append_nil] at hst
          have HST := Lib.hid hst
          clear hst hx
          go_wp2_with (first | (at_builtin; refine catI (HM3.out.alloc _) [itm x] _ 1 1 rfl (Ls.new _ (itm x) _ _ (Nat.lt_succ_self _)) (by simp only [List.length_append, List.length_take]; omega) rfl _ _ rfl rfl rfl ?_; intro v4 w4 hM4 hG4; have HM4 := Lib.hid hM4; clear hM4 hG4) | (at_builtin; refine catI HM2.out (R.take p) A p c HTL.out ((((Hid.out hl).2.2.2.take p).below (HM2.out.2.mono hB))) (by omega) rfl _ _ rfl rfl rfl ?_; intro v3 w3 hM3 hG3; have HM3 := Lib.hid hM3; have hd0 := (Hid.out hm).keep hG3 (Nat.le_refl _) he0; have hd1 := (Hid.out hm).keep hG3 (Nat.le_refl _) he1; have hd2 := (Hid.out hm).keep hG3 (Nat.le_refl _) he2; clear hM3 hG3 he0 he1 he2))
          exact ⟨⟨i + 1, R.drop (p + 1), O ++ R.take p ++ [itm x], A2, n - p - 1, c - p - 1, by omega, by go_num, rfl, ⟨by rw [List.length_drop, ← (Hid.out hl).1] <;> omega, by omega, by omega, HL2.out⟩, HST.out, HM4.out⟩, by simp [intOf] <;> omega⟩
        · have hh : x.h = false := by simpa using hh
          rw [hh] at he1
          simp only [hf, hh, if_true, Bool.false_eq_true, if_false, Nat.add_zero, List.append_nil] at hst
          have HST := Lib.hid hst
          clear hst hx
          go_wp2_with (at_builtin; refine catI HM2.out (R.take p) A p c HTL.out ((((Hid.out hl).2.2.2.take p).below (HM2.out.2.mono hB))) (by omega) rfl _ _ rfl rfl rfl ?_; intro v3 w3 hM3 hG3; have HM3 := Lib.hid hM3; have hd0 := (Hid.out hm).keep hG3 (Nat.le_refl _) he0; have hd1 := (Hid.out hm).keep hG3 (Nat.le_refl _) he1; have hd2 := (Hid.out hm).keep hG3 (Nat.le_refl _) he2; clear hM3 hG3 he0 he1 he2)
          exact ⟨⟨i + 1, R.drop (p + 1), O ++ R.take p, A2, n - p - 1, c - p - 1, by omega, by go_num, rfl, ⟨by rw [List.length_drop, ← (Hid.out hl).1] <;> omega, by omega, by omega, HL2.out⟩, HST.out, HM3.out⟩, by simp [intOf] <;> omega⟩
      · have hf : found R x.k p = false := by simpa using hf
        by_cases hh : x.h = true
        · rw [hh] at he1
          simp only [hf, hh, if_true, Bool.false_eq_true, if_false, Nat.add_zero, List.append_nil] at hst
          have HST := Lib.hid hst
          clear hst hx
          go_wp2_with (first | (at_builtin; refine catI (HM3.out.alloc _) [itm x] _ 1 1 rfl (Ls.new _ (itm x) _ _ (Nat.lt_succ_self _)) (by simp only [List.length_append, List.length_take]; omega) rfl _ _ rfl rfl rfl ?_; intro v4 w4 hM4 hG4; have HM4 := Lib.hid hM4; clear hM4 hG4) | (at_builtin; refine catI HM2.out (R.take p) A p c HTL.out ((((Hid.out hl).2.2.2.take p).below (HM2.out.2.mono hB))) (by omega) rfl _ _ rfl rfl rfl ?_; intro v3 w3 hM3 hG3; have HM3 := Lib.hid hM3; have hd0 := (Hid.out hm).keep hG3 (Nat.le_refl _) he0; have hd1 := (Hid.out hm).keep hG3 (Nat.le_refl _) he1; have hd2 := (Hid.out hm).keep hG3 (Nat.le_refl _) he2; clear hM3 hG3 he0 he1 he2))
          exact ⟨⟨i + 1, R.drop p, O ++ R.take p ++ [itm x], A1, n - p, c - p, by omega, by go_num, rfl, ⟨by rw [List.length_drop, ← (Hid.out hl).1] <;> omega, by omega, by omega, HL1.out⟩, HST.out, HM4.out⟩, by simp [intOf] <;> omega⟩
        · have hh : x.h = false := by simpa using hh
          rw [hh] at he1
          simp only [hf, hh, if_true, Bool.false_eq_true, if_false, Nat.add_zero, List.append_nil] at hst
          have HST := Lib.hid hst
          clear hst hx
          go_wp2_with (at_builtin; refine catI HM2.out (R.take p) A p c HTL.out ((((Hid.out hl).2.2.2.take p).below (HM2.out.2.mono hB))) (by omega) rfl _ _ rfl rfl rfl ?_; intro v3 w3 hM3 hG3; have HM3 := Lib.hid hM3; have hd0 := (Hid.out hm).keep hG3 (Nat.le_refl _) he0; have hd1 := (Hid.out hm).keep hG3 (Nat.le_refl _) he1; have hd2 := (Hid.out hm).keep hG3 (Nat.le_refl _) he2; clear hM3 hG3 he0 he1 he2)
          exact ⟨⟨i + 1, R.drop p, O ++ R.take p, A1, n - p, c - p, by omega, by go_num, rfl, ⟨by rw [List.length_drop, ← (Hid.out hl).1] <;> omega, by omega, by omega, HL1.out⟩, HST.out, HM3.out⟩, by simp [intOf] <;> omega⟩
    · have HO := Lib.hid (show O ++ R = app D L by
        have h := (Hid.out hat).2.1
        rw [List.drop_eq_nil_of_le (by rw [← HN'.out]; omega)] at h
        exact h)
      have hop : O.length + n ≤ 4398046511104 := by
        have h1 := (Hid.out hl).1
        have h2 := (Hid.out hat).2.2
        have h3 := HDL.out
        omega
      go_wp2_with (at_builtin; refine catI (Hid.out hm) R A n c (Hid.out hl).1 ((Hid.out hl).2.2.2.below ((Hid.out hm).2.mono hB)) (by omega) rfl _ _ rfl rfl rfl ?_; intro v3 w3 hM3 hG3; have HM3 := Lib.hid hM3; clear hM3 hG3)
      go_ret
      exact ⟨_, rfl, by rw [← HO.out]; exact HM3.out⟩
end Go.Proofs.YtjkmfonngbendaaGreatDoor.It
/- Contract of package item's lastOfEach: of each key the change that is done last, by key. -/
namespace Go.Proofs.YtjkmfonngbendaaGreatDoor.It
set_option linter.unusedVariables false
set_option maxRecDepth 100000
open Go.ChangeShapes Go.WideShapes Go.ChangeAt Go.RowKit
open Ar Rg St
open BigFrame
set_option maxRecDepth 100000 in
set_option maxHeartbeats 1000000 in
theorem stable_none (w : World) :
    Calls Tryz.prog 129 #[.slice none 0 0, .int .i64 0, Sc.CMP] w fun e w' => e = .returned (.tuple #[]) ∧ w = w' := by
  unfold Sc.CMP
  go_enter Tryz.func129, Tryz.ntmps129
  go_wp2_with fail
  refine wp_loop_rounds 1 ?_
  rw [rounds_succ]
  go_wp2_with fail
  go_at_call 171
  refine (Sc.insertion_none 0 _ _ (by omega) _).mono ?_
  rintro e w1 ⟨rfl, rfl⟩
  go_wp2_with fail
  refine wp_loop_rounds 1 ?_
  rw [rounds_succ]
  go_wp2
  exact ⟨rfl, _, results_none rfl _ _ _, rfl, rfl⟩
theorem sort_none (w : World) :
    Calls Tryz.prog 83 #[.slice none 0 0, Sc.CMP] w fun e w' => e = .returned (.tuple #[]) ∧ w = w' := by
  have HC := Lib.hid (stable_none w)
  unfold Sc.CMP at *
  go_enter Tryz.func83, Tryz.ntmps83
  go_wp2_with fail
  go_at_call 129
  refine HC.out.mono ?_
  rintro e w1 ⟨rfl, rfl⟩
  go_wp2
  exact ⟨rfl, _, results_none rfl _ _ _, rfl, rfl⟩
/-- what the sort leaves: a slice that was made, by key, of each key the same -/
def SortedTo (C : List Ch) (w0 : World) (v : Value) (w' : World) : Prop := ∃ (A : Option Addr) (c : Nat) (S : List Ch), v = .slice A C.length c ∧ S.length = C.length ∧ Srt Sc.key lt S ∧ Sm Sc.key C S ∧ Ls Sc.enc 3 w' w'.heap.size A S ∧ Below w0.heap.size w0 w'
theorem sorted_any (C : List Ch) (w0 w : World) (v : Value) (hM : MkC w0 w v C) (hlen : C.length ≤ 1099511627776) :
    Calls Tryz.prog 83 #[v, Sc.CMP] w fun e w' => e = .returned (.tuple #[]) ∧ SortedTo C w0 v w' := by
  rcases hM.arr Sc.enc_len with ⟨rfl, rfl⟩ | ⟨g, c, rfl, hc, hcm, hg, hlt, hA⟩
  · refine (sort_none w).mono fun e w' h => ?_
    obtain ⟨h1, rfl⟩ := h
    exact ⟨h1, none, 0, [], rfl, rfl, Srt.nil, Sm.refl _, Ls.nil, hM.2⟩
  · refine (Sc.sort_any C g c C.length rfl hc (by omega) w hA).mono fun e w' h => ?_
    obtain ⟨h1, S, h2, h3, h4, h5, h6⟩ := h
    refine ⟨h1, some ⟨g, 0, none⟩, c, S, rfl, h3, h4, h5, Ls.of_arr h2 (Nat.lt_of_lt_of_le hlt h6.size), hM.2.grown h6 hM.2.size ?_⟩
    intro q hq
    cases hq
    exact hg
theorem lasts_len : ∀ S : List Ch, (lasts S).length ≤ S.length
  | [] => Nat.le_refl _
  | [c] => by simp [lasts]
  | c :: d :: r => by
    have ih := lasts_len (d :: r)
    rw [lasts, List.length_append]
    have : (if ckey d = ckey c then [] else [c]).length ≤ 1 := by split <;> simp
    simp only [List.length_cons] at ih ⊢
    omega
def AtL (S : List Ch) (i : Nat) (O : List Ch) : Prop := O ++ lasts (S.drop i) = lasts S
theorem AtL.le {S O : List Ch} {i : Nat} (h : AtL S i O) : O.length ≤ S.length := by
  have := congrArg List.length h
  rw [List.length_append] at this
  have := lasts_len S
  omega
theorem AtL.put_last {S O : List Ch} {i : Nat} {x : Ch} (h : AtL S i O) (hx : S[i]? = some x) (hl : i + 1 = S.length) : AtL S (i + 1) (O ++ [x]) := by
  unfold AtL at h ⊢
  rw [← h, drop_atC hx, List.drop_eq_nil_of_le (by omega)]
  simp [lasts]
theorem AtL.put {S O : List Ch} {i : Nat} {x y : Ch} (h : AtL S i O) (hx : S[i]? = some x) (hy : S[i + 1]? = some y) (hk : ckey y ≠ ckey x) : AtL S (i + 1) (O ++ [x]) := by
  unfold AtL at h ⊢
  rw [← h, drop_atC hx, drop_atC hy, lasts, if_neg hk, List.append_assoc]
theorem AtL.pass {S O : List Ch} {i : Nat} {x y : Ch} (h : AtL S i O) (hx : S[i]? = some x) (hy : S[i + 1]? = some y) (hk : ckey y = ckey x) : AtL S (i + 1) O := by
  unfold AtL at h ⊢
  rw [← h, drop_atC hx, drop_atC hy, lasts, if_pos hk, List.nil_append]
theorem AtL.done {S O : List Ch} {i : Nat} (h : AtL S i O) (hi : S.length ≤ i) : O = lasts S := by
  unfold AtL at h
  rw [List.drop_eq_nil_of_le hi] at h
  rw [← h]; simp [lasts]
set_option maxRecDepth 100000 in
set_option maxHeartbeats 1000000 in
theorem lastOfEach_any (C : List Ch) (A : Option Addr) (n c B : Nat) (hn : n = C.length) (hlen : n ≤ 1099511627776) (w : World) (hB : B ≤ w.heap.size) (hC : Ls Sc.enc 3 w B A C) :
    Calls Tryz.prog 44 #[.slice A n c] w fun e w' => ∃ v S, e = .returned v ∧ Srt Sc.key lt S ∧ Sm Sc.key C S ∧ S.length = n ∧ MkC w w' v (lasts S) := by
  have HN := Lib.hid hn
  have HC := Lib.hid hC
  clear hn hC
  go_enter Tryz.func44, Tryz.ntmps44
  go_wp2_with (at_builtin; refine catC (Mk.nil (Below.refl _ _)) C A n c HN.out HC.out (by simp; omega) rfl _ _ rfl rfl rfl ?_; intro v1 w1 hM1 hG1; have HM1 := Lib.hid hM1; clear hM1 hG1)
  go_at_call 83
  refine (sorted_any C w w1 v1 HM1.out (by rw [← HN.out]; exact hlen)).mono ?_
  rintro e w2 ⟨rfl, hs⟩
  obtain ⟨A2, c2, S, hv1, hSl, hSs, hSm, hSL, hSb⟩ := hs
  have HS := Lib.hid (And.intro hSs hSm)
  have HSL := Lib.hid hSL
  have HSB := Lib.hid hSb
  have HSN := Lib.hid (show n = S.length by rw [hSl]; exact HN.out)
  rw [← HN.out] at hv1
  clear hSs hSm hSL hSb hSl HM1
  subst hv1
  go_wp2_with fail
  go_loopw [4, 13] (fun ov v wr => ∃ (i : Nat) (O : List Ch), i ≤ n ∧ v = .int .i64 i ∧ Hid (AtL S i O) ∧ Hid (MkC w2 wr ov O)) (fun _ v _ => n - (intOf v).toNat)
  case atStart => exact ⟨0, [], Nat.zero_le _, by go_num, rfl, Mk.nil (Below.refl _ _)⟩
  case round =>
    obtain ⟨i, O, hi, rfl, hat, hm⟩ := hrel
    by_cases hlt : i < n
    · obtain ⟨x, hx⟩ : ∃ x, S[i]? = some x := ⟨_, List.getElem?_eq_getElem (by rw [← HSN.out]; exact hlt)⟩
      have hL := HSL.out.below (Hid.out hm).2
      obtain ⟨b, o, hAe, hb, hr⟩ := hL i x hx
      have hbs : b < wr.heap.size := Nat.lt_of_lt_of_le hb (Hid.out hm).2.size
      have hc0 : wr.cell? ⟨b, o + i * 3, none⟩ = some (.string x.k) := hr 0 _ rfl
      have hc1 : wr.cell? ⟨b, o + i * 3 + 1, none⟩ = some (.bool x.h) := hr 1 _ rfl
      have hc2 : wr.cell? ⟨b, o + i * 3 + 2, none⟩ = some (.string x.v) := hr 2 _ rfl
      have HL := Lib.hid hL
      clear hL hr
      subst hAe
      have HM := Lib.hid (show MkC w2 (wr.alloc (.cells #[.string x.k, .bool x.h, .string x.v] 41)) _ O from (Hid.out hm).alloc _)
      have hd0 : (wr.alloc (.cells #[.string x.k, .bool x.h, .string x.v] 41)).cell? ⟨wr.heap.size, 0, none⟩ = some (.string x.k) := by simp
      have hd1 : (wr.alloc (.cells #[.string x.k, .bool x.h, .string x.v] 41)).cell? ⟨wr.heap.size, 1, none⟩ = some (.bool x.h) := by simp
      have hd2 : (wr.alloc (.cells #[.string x.k, .bool x.h, .string x.v] 41)).cell? ⟨wr.heap.size, 2, none⟩ = some (.string x.v) := by simp
      have hol : O.length ≤ n := by have := (Hid.out hat).le; rw [← HSN.out] at this; exact this
      by_cases hl : i + 1 = n
      · have hq : (((i : Int) + 1) == (n : Int)) = true := by rw [beq_iff_eq]; omega
        have HA := Lib.hid ((Hid.out hat).put_last hx (by rw [← HSN.out]; exact hl))
        clear hat hx hl
        go_wp2_with fail
        generalize wr.alloc _ = W1 at *
        go_big_quiet (fail)
        have HM2 := Lib.hid (HM.out.drewN nq)
        clear HM hm
        go_wp2_with (at_builtin; refine catC (HM2.out.alloc _) [x] _ 1 1 rfl (Ls.new _ x _ _ (Nat.lt_succ_self _)) (by omega) rfl _ _ rfl rfl rfl ?_; intro v3 w3 hM3 hG3; have HM3 := Lib.hid hM3; clear hM3 hG3)
        exact ⟨⟨i + 1, O ++ [x], by omega, by go_num, HA.out, HM3.out⟩, by simp [intOf] <;> omega⟩
      · obtain ⟨j, hj⟩ : ∃ j, i + 1 = j := ⟨_, rfl⟩
        have hj1 : (i : Int) + 1 = (j : Int) := by omega
        have hj3 : (j : Int) < (n : Int) := by omega
        have hq : ((j : Int) == (n : Int)) = false := by rw [beq_eq_false_iff_ne]; omega
        obtain ⟨y, hy⟩ : ∃ y, S[j]? = some y := ⟨_, List.getElem?_eq_getElem (by rw [← HSN.out]; omega)⟩
        obtain ⟨b2, o2, hAe, hb2, hr⟩ := HL.out j y hy
        cases hAe
        have hcy : (wr.alloc (.cells #[.string x.k, .bool x.h, .string x.v] 41)).cell? ⟨b, o + j * 3, none⟩ = some (.string y.k) := by
          rw [World.cell?_alloc_lt _ _ _ hbs]
          exact hr 0 _ rfl
        clear hr
        rw [← hj] at hy
        by_cases hk : ckey y = ckey x
        · have he : (y.k.toList == x.k.toList) = true := by rw [str_eq]; exact decide_eq_true hk
          have HA := Lib.hid ((Hid.out hat).pass hx hy hk)
          rw [hj] at HA
          clear hat hx hy hk hl
          go_wp2_with fail
          generalize wr.alloc _ = W1 at *
          go_big_quiet (fail)
          have HM2 := Lib.hid (HM.out.drewN nq)
          clear HM hm
          go_wp2
          exact ⟨⟨j, O, by omega, rfl, HA.out, HM2.out⟩, by simp [intOf] <;> omega⟩
        · have he : (y.k.toList == x.k.toList) = false := by rw [str_eq]; exact decide_eq_false hk
          have HA := Lib.hid ((Hid.out hat).put hx hy hk)
          rw [hj] at HA
          clear hat hx hy hk hl
          go_wp2_with fail
          generalize wr.alloc _ = W1 at *
          go_big_quiet (fail)
          have HM2 := Lib.hid (HM.out.drewN nq)
          clear HM hm
          go_wp2_with (at_builtin; refine catC (HM2.out.alloc _) [x] _ 1 1 rfl (Ls.new _ x _ _ (Nat.lt_succ_self _)) (by omega) rfl _ _ rfl rfl rfl ?_; intro v3 w3 hM3 hG3; have HM3 := Lib.hid hM3; clear hM3 hG3)
          exact ⟨⟨j, O ++ [x], by omega, rfl, HA.out, HM3.out⟩, by simp [intOf] <;> omega⟩
    · have HO := Lib.hid ((Hid.out hat).done (by rw [← HSN.out]; omega))
      have HM := Lib.hid ((Hid.out hm).since HSB.out)
      clear hat hm
      go_wp2
      go_ret
      exact ⟨_, S, rfl, HS.out.1, HS.out.2, HSN.out.symm, by rw [← HO.out]; exact HM.out⟩
end Go.Proofs.YtjkmfonngbendaaGreatDoor.It
/- Contracts of package item's there, apart, Diff and Apply. -/
namespace Go.Proofs.YtjkmfonngbendaaGreatDoor.It
set_option linter.unusedVariables false
set_option maxRecDepth 100000
open Go.ChangeShapes Go.WideShapes Go.ChangeAt Go.RowKit
open Ar Rg St
open BigFrame
theorem there_any (x : Itm) (w : World) :
    Calls Tryz.prog 140 #[.agg #[.string x.k, .string x.v]] w fun e w' => e = .returned (.agg #[.string x.k, .bool true, .string x.v]) ∧ Below w.heap.size w w' := by
  go_enter Tryz.func140, Tryz.ntmps140
  go_wp2
  exact bodyPost_ret (v := .agg #[.string x.k, .bool true, .string x.v]) (by simp [results, Tryz.results140, go_sem]) rfl ⟨rfl, ((Below.refl _ _).alloc (Nat.le_refl _) _).alloc (by simp) _⟩
/-- what has been put, what is left of the two -/
def AtD (A B : List Itm) (i j : Nat) (O : List Ch) : Prop := O ++ dif (A.drop i) (B.drop j) = dif A B ∧ O.length ≤ i + j
theorem AtD.left {A B : List Itm} {i j : Nat} {O : List Ch} {a : Itm} (h : AtD A B i j O) (ha : A[i]? = some a) (hj : B.length ≤ j) : AtD A B (i + 1) j (O ++ [gone a]) := by
  obtain ⟨h1, h2⟩ := h
  refine ⟨?_, by simp; omega⟩
  rw [← h1, drop_at ha, List.drop_eq_nil_of_le hj, dif_left, List.append_assoc]; rfl
theorem AtD.ahead {A B : List Itm} {i j : Nat} {O : List Ch} {a b : Itm} (h : AtD A B i j O) (ha : A[i]? = some a) (hb : B[j]? = some b) (hl : lt (key a) (key b) = true) : AtD A B (i + 1) j (O ++ [gone a]) := by
  obtain ⟨h1, h2⟩ := h
  refine ⟨?_, by simp; omega⟩
  rw [← h1, drop_at ha, drop_at hb, dif_lt _ _ hl, List.append_assoc]; rfl
theorem AtD.right {A B : List Itm} {i j : Nat} {O : List Ch} {b : Itm} (h : AtD A B i j O) (hi : A.length ≤ i) (hb : B[j]? = some b) : AtD A B i (j + 1) (O ++ [there b]) := by
  obtain ⟨h1, h2⟩ := h
  refine ⟨?_, by simp; omega⟩
  rw [← h1, List.drop_eq_nil_of_le hi, drop_at hb, dif_right, List.append_assoc]; rfl
theorem AtD.behind {A B : List Itm} {i j : Nat} {O : List Ch} {a b : Itm} (h : AtD A B i j O) (ha : A[i]? = some a) (hb : B[j]? = some b) (hl : lt (key b) (key a) = true) : AtD A B i (j + 1) (O ++ [there b]) := by
  obtain ⟨h1, h2⟩ := h
  refine ⟨?_, by simp; omega⟩
  rw [← h1, drop_at ha, drop_at hb, dif_gt _ _ hl, List.append_assoc]; rfl
theorem AtD.same {A B : List Itm} {i j : Nat} {O : List Ch} {a b : Itm} (h : AtD A B i j O) (ha : A[i]? = some a) (hb : B[j]? = some b) (hk : key a = key b) (hv : a.v.data.toList = b.v.data.toList) : AtD A B (i + 1) (j + 1) O := by
  obtain ⟨h1, h2⟩ := h
  refine ⟨?_, by omega⟩
  rw [← h1, drop_at ha, drop_at hb, dif_same _ _ hk hv]
theorem AtD.other {A B : List Itm} {i j : Nat} {O : List Ch} {a b : Itm} (h : AtD A B i j O) (ha : A[i]? = some a) (hb : B[j]? = some b) (hk : key a = key b) (hv : a.v.data.toList ≠ b.v.data.toList) : AtD A B (i + 1) (j + 1) (O ++ [there b]) := by
  obtain ⟨h1, h2⟩ := h
  refine ⟨?_, by simp; omega⟩
  rw [← h1, drop_at ha, drop_at hb, dif_other _ _ hk hv, List.append_assoc]; rfl
theorem AtD.done {A B : List Itm} {i j : Nat} {O : List Ch} (h : AtD A B i j O) (hi : A.length ≤ i) (hj : B.length ≤ j) : O = dif A B := by
  have h1 := h.1
  rw [List.drop_eq_nil_of_le hi, List.drop_eq_nil_of_le hj, dif_nil [], List.append_nil] at h1
  exact h1
theorem O_tri {a b : List UInt8} (h : lt a b = false) (h' : lt b a = false) : a = b := O.tri _ _ h h'
theorem bl_of {a b : ByteArray} {q : Bool} (h : lt a.data.toList b.data.toList = q) : Op.bytesLess a.toList b.toList = q := by
  rw [ByteArray.toList_eq, ByteArray.toList_eq]; exact h
set_option maxRecDepth 100000 in
set_option maxHeartbeats 3000000 in
theorem apart_any (X Y : List Itm) (A A' : Option Addr) (n c m c' B B' : Nat) (hn : n = X.length) (hm : m = Y.length) (hlen : n ≤ 1099511627776) (hlen' : m ≤ 1099511627776) (w : World) (hB : B ≤ w.heap.size) (hB' : B' ≤ w.heap.size) (hX : Ls enc 2 w B A X) (hY : Ls enc 2 w B' A' Y) :
    Calls Tryz.prog 90 #[.slice A n c, .slice A' m c'] w fun e w' => ∃ v, e = .returned v ∧ MkC w w' v (dif X Y) := by
  have HN := Lib.hid hn
  have HN' := Lib.hid hm
  have HX := Lib.hid hX
  have HY := Lib.hid hY
  clear hn hm hX hY
  go_enter Tryz.func90, Tryz.ntmps90
  go_wp2_with fail
  go_step3
  go_wp2_with fail
  go_step3
  go_wp2_with fail
  go_loopw [5, 6, 7] (fun ov iv jv wr => ∃ (i j : Nat) (O : List Ch), i ≤ n ∧ j ≤ m ∧ iv = .int .i64 i ∧ jv = .int .i64 j ∧ Hid (AtD X Y i j O) ∧ Hid (MkC w wr ov O)) (fun _ iv jv _ => (n + m) - ((intOf iv).toNat + (intOf jv).toNat))
  case atStart => exact ⟨0, 0, [], Nat.zero_le _, Nat.zero_le _, by go_num, by go_num, ⟨rfl, Nat.le_refl _⟩, Mk.nil (Below.refl _ _)⟩
  case round =>
    obtain ⟨i, j, O, hi, hj, rfl, rfl, hat, hmk⟩ := hrel
    have hol : O.length ≤ i + j := (Hid.out hat).2
    have HM := hmk
    by_cases hin : i < n
    · have q1 : ((i : Int) == (n : Int)) = false := by rw [beq_eq_false_iff_ne]; omega
      have q2 : decide ((i : Int) < (n : Int)) = true := by rw [decide_eq_true_iff]; omega
      obtain ⟨a, ha⟩ : ∃ a, X[i]? = some a := ⟨_, List.getElem?_eq_getElem (by rw [← HN.out]; exact hin)⟩
      obtain ⟨b, o, hAe, hb, hr⟩ := (HX.out.below ((Hid.out hmk).2.mono hB)) i a ha
      have ha0 : wr.cell? ⟨b, o + i * 2, none⟩ = some (.string a.k) := hr 0 _ rfl
      have ha1 : wr.cell? ⟨b, o + i * 2 + 1, none⟩ = some (.string a.v) := hr 1 _ rfl
      clear hr
      subst hAe
      by_cases hjm : j < m
      · have q3 : ((j : Int) == (m : Int)) = false := by rw [beq_eq_false_iff_ne]; omega
        obtain ⟨b2, hb2⟩ : ∃ b2, Y[j]? = some b2 := ⟨_, List.getElem?_eq_getElem (by rw [← HN'.out]; exact hjm)⟩
        obtain ⟨b', o', hAe, hb', hr⟩ := (HY.out.below ((Hid.out hmk).2.mono hB')) j b2 hb2
        have hb0 : wr.cell? ⟨b', o' + j * 2, none⟩ = some (.string b2.k) := hr 0 _ rfl
        have hb1 : wr.cell? ⟨b', o' + j * 2 + 1, none⟩ = some (.string b2.v) := hr 1 _ rfl
        clear hr
        subst hAe
        by_cases h1 : lt (key a) (key b2) = true
        · have HAT := Lib.hid ((Hid.out hat).ahead ha hb2 h1)
          have q4 := bl_of h1
          clear h1 hat ha hb2 hmk
          go_wp2_with fail
          go_big_quiet (fail)
          have HM2 := Lib.hid (HM.out.drewN nq)
          clear HM
          have ha0' : (wr.drewN nq).cell? ⟨b, o + i * 2, none⟩ = some (.string a.k) := ha0
          clear ha0
          have ha0 := ha0'
          clear ha0'
          have ha1' : (wr.drewN nq).cell? ⟨b, o + i * 2 + 1, none⟩ = some (.string a.v) := ha1
          clear ha1
          have ha1 := ha1'
          clear ha1'
          have hb0' : (wr.drewN nq).cell? ⟨b', o' + j * 2, none⟩ = some (.string b2.k) := hb0
          clear hb0
          have hb0 := hb0'
          clear hb0'
          have hb1' : (wr.drewN nq).cell? ⟨b', o' + j * 2 + 1, none⟩ = some (.string b2.v) := hb1
          clear hb1
          have hb1 := hb1'
          clear hb1'
          generalize World.drewN wr nq = W2 at *
          go_wp2_with (at_builtin; refine catC (HM2.out.alloc _) [gone a] _ 1 1 rfl (Ls.new _ (gone a) _ _ (Nat.lt_succ_self _)) (by omega) rfl _ _ rfl rfl rfl ?_; intro v3 w3 hM3 hG3; have HM3 := Lib.hid hM3; clear hM3 hG3)
          exact ⟨⟨i + 1, j, O ++ [gone a], by omega, by omega, by go_num, by go_num, HAT.out, HM3.out⟩, by simp [intOf] <;> omega⟩
        · have h1 : lt (key a) (key b2) = false := by simpa using h1
          have q4 := bl_of h1
          by_cases h2 : lt (key b2) (key a) = true
          · have HAT := Lib.hid ((Hid.out hat).behind ha hb2 h2)
            have q5 := bl_of h2
            clear h1 h2 hat ha hb2 hmk
            go_wp2_with fail
            go_big_quiet (fail)
            have HM2 := Lib.hid (HM.out.drewN nq)
            clear HM
            have ha0' : (wr.drewN nq).cell? ⟨b, o + i * 2, none⟩ = some (.string a.k) := ha0
            clear ha0
            have ha0 := ha0'
            clear ha0'
            have ha1' : (wr.drewN nq).cell? ⟨b, o + i * 2 + 1, none⟩ = some (.string a.v) := ha1
            clear ha1
            have ha1 := ha1'
            clear ha1'
            have hb0' : (wr.drewN nq).cell? ⟨b', o' + j * 2, none⟩ = some (.string b2.k) := hb0
            clear hb0
            have hb0 := hb0'
            clear hb0'
            have hb1' : (wr.drewN nq).cell? ⟨b', o' + j * 2 + 1, none⟩ = some (.string b2.v) := hb1
            clear hb1
            have hb1 := hb1'
            clear hb1'
            generalize World.drewN wr nq = W2 at *
            go_wp2_with fail
            go_big_quiet (fail)
            have HM4 := Lib.hid (HM2.out.drewN nq)
            clear HM2
            have ha0' : (W2.drewN nq).cell? ⟨b, o + i * 2, none⟩ = some (.string a.k) := ha0
            clear ha0
            have ha0 := ha0'
            clear ha0'
            have ha1' : (W2.drewN nq).cell? ⟨b, o + i * 2 + 1, none⟩ = some (.string a.v) := ha1
            clear ha1
            have ha1 := ha1'
            clear ha1'
            have hb0' : (W2.drewN nq).cell? ⟨b', o' + j * 2, none⟩ = some (.string b2.k) := hb0
            clear hb0
            have hb0 := hb0'
            clear hb0'
            have hb1' : (W2.drewN nq).cell? ⟨b', o' + j * 2 + 1, none⟩ = some (.string b2.v) := hb1
            clear hb1
            have hb1 := hb1'
            clear hb1'
            generalize World.drewN W2 nq = W3 at *
            go_wp2_with (first | (go_at_call 140; refine (there_any b2 _).mono ?_; rintro e wt ⟨rfl, hbt⟩; have HMT := Lib.hid (HM4.out.go hbt); clear hbt) | (at_builtin; refine catC (HMT.out.alloc _) [there b2] _ 1 1 rfl (Ls.new _ (there b2) _ _ (Nat.lt_succ_self _)) (by omega) rfl _ _ rfl rfl rfl ?_; intro v3 w3 hM3 hG3; have HM3 := Lib.hid hM3; clear hM3 hG3))
            exact ⟨⟨i, j + 1, O ++ [there b2], by omega, by omega, by go_num, by go_num, HAT.out, HM3.out⟩, by simp [intOf] <;> omega⟩
          · have h2 : lt (key b2) (key a) = false := by simpa using h2
            have q5 := bl_of h2
            have hk : key a = key b2 := O_tri h1 h2
            have q6 : (a.k.toList == b2.k.toList) = true := by rw [str_eq]; exact decide_eq_true hk
            by_cases hv : a.v.data.toList = b2.v.data.toList
            · have q7 : (a.v.toList == b2.v.toList) = true := by rw [str_eq]; exact decide_eq_true hv
              have HAT := Lib.hid ((Hid.out hat).same ha hb2 hk hv)
              clear h1 h2 hk hv hat ha hb2 hmk
              go_wp2_with fail
              go_big_quiet (fail)
              have HM2 := Lib.hid (HM.out.drewN nq)
              clear HM
              have ha0' : (wr.drewN nq).cell? ⟨b, o + i * 2, none⟩ = some (.string a.k) := ha0
              clear ha0
              have ha0 := ha0'
              clear ha0'
              have ha1' : (wr.drewN nq).cell? ⟨b, o + i * 2 + 1, none⟩ = some (.string a.v) := ha1
              clear ha1
              have ha1 := ha1'
              clear ha1'
              have hb0' : (wr.drewN nq).cell? ⟨b', o' + j * 2, none⟩ = some (.string b2.k) := hb0
              clear hb0
              have hb0 := hb0'
              clear hb0'
              have hb1' : (wr.drewN nq).cell? ⟨b', o' + j * 2 + 1, none⟩ = some (.string b2.v) := hb1
              clear hb1
              have hb1 := hb1'
              clear hb1'
              generalize World.drewN wr nq = W2 at *
              go_wp2_with fail
              go_big_quiet (fail)
              have HM4 := Lib.hid (HM2.out.drewN nq)
              clear HM2
              have ha0' : (W2.drewN nq).cell? ⟨b, o + i * 2, none⟩ = some (.string a.k) := ha0
              clear ha0
              have ha0 := ha0'
              clear ha0'
              have ha1' : (W2.drewN nq).cell? ⟨b, o + i * 2 + 1, none⟩ = some (.string a.v) := ha1
              clear ha1
              have ha1 := ha1'
              clear ha1'
              have hb0' : (W2.drewN nq).cell? ⟨b', o' + j * 2, none⟩ = some (.string b2.k) := hb0
              clear hb0
              have hb0 := hb0'
              clear hb0'
              have hb1' : (W2.drewN nq).cell? ⟨b', o' + j * 2 + 1, none⟩ = some (.string b2.v) := hb1
              clear hb1
              have hb1 := hb1'
              clear hb1'
              generalize World.drewN W2 nq = W3 at *
              go_wp2_with fail
              go_big_quiet (fail)
              have HM3 := Lib.hid (HM4.out.drewN nq)
              clear HM4
              have ha0' : (W3.drewN nq).cell? ⟨b, o + i * 2, none⟩ = some (.string a.k) := ha0
              clear ha0
              have ha0 := ha0'
              clear ha0'
              have ha1' : (W3.drewN nq).cell? ⟨b, o + i * 2 + 1, none⟩ = some (.string a.v) := ha1
              clear ha1
              have ha1 := ha1'
              clear ha1'
              have hb0' : (W3.drewN nq).cell? ⟨b', o' + j * 2, none⟩ = some (.string b2.k) := hb0
              clear hb0
              have hb0 := hb0'
              clear hb0'
              have hb1' : (W3.drewN nq).cell? ⟨b', o' + j * 2 + 1, none⟩ = some (.string b2.v) := hb1
              clear hb1
              have hb1 := hb1'
              clear hb1'
              generalize World.drewN W3 nq = W4 at *
              go_wp2_with fail
              exact ⟨⟨i + 1, j + 1, O, by omega, by omega, by go_num, by go_num, HAT.out, HM3.out⟩, by simp [intOf] <;> omega⟩
            · have q7 : (a.v.toList == b2.v.toList) = false := by rw [str_eq]; exact decide_eq_false hv
              have HAT := Lib.hid ((Hid.out hat).other ha hb2 hk hv)
              clear h1 h2 hk hv hat ha hb2 hmk
              go_wp2_with fail
              go_big_quiet (fail)
              have HM2 := Lib.hid (HM.out.drewN nq)
              clear HM
              have ha0' : (wr.drewN nq).cell? ⟨b, o + i * 2, none⟩ = some (.string a.k) := ha0
              clear ha0
              have ha0 := ha0'
              clear ha0'
              have ha1' : (wr.drewN nq).cell? ⟨b, o + i * 2 + 1, none⟩ = some (.string a.v) := ha1
              clear ha1
              have ha1 := ha1'
              clear ha1'
              have hb0' : (wr.drewN nq).cell? ⟨b', o' + j * 2, none⟩ = some (.string b2.k) := hb0
              clear hb0
              have hb0 := hb0'
              clear hb0'
              have hb1' : (wr.drewN nq).cell? ⟨b', o' + j * 2 + 1, none⟩ = some (.string b2.v) := hb1
              clear hb1
              have hb1 := hb1'
              clear hb1'
              generalize World.drewN wr nq = W2 at *
              go_wp2_with fail
              go_big_quiet (fail)
              have HM4 := Lib.hid (HM2.out.drewN nq)
              clear HM2
              have ha0' : (W2.drewN nq).cell? ⟨b, o + i * 2, none⟩ = some (.string a.k) := ha0
              clear ha0
              have ha0 := ha0'
              clear ha0'
              have ha1' : (W2.drewN nq).cell? ⟨b, o + i * 2 + 1, none⟩ = some (.string a.v) := ha1
              clear ha1
              have ha1 := ha1'
              clear ha1'
              have hb0' : (W2.drewN nq).cell? ⟨b', o' + j * 2, none⟩ = some (.string b2.k) := hb0
              clear hb0
              have hb0 := hb0'
              clear hb0'
              have hb1' : (W2.drewN nq).cell? ⟨b', o' + j * 2 + 1, none⟩ = some (.string b2.v) := hb1
              clear hb1
              have hb1 := hb1'
              clear hb1'
              generalize World.drewN W2 nq = W3 at *
              go_wp2_with fail
              go_big_quiet (fail)
              have HM5 := Lib.hid (HM4.out.drewN nq)
              clear HM4
              have ha0' : (W3.drewN nq).cell? ⟨b, o + i * 2, none⟩ = some (.string a.k) := ha0
              clear ha0
              have ha0 := ha0'
              clear ha0'
              have ha1' : (W3.drewN nq).cell? ⟨b, o + i * 2 + 1, none⟩ = some (.string a.v) := ha1
              clear ha1
              have ha1 := ha1'
              clear ha1'
              have hb0' : (W3.drewN nq).cell? ⟨b', o' + j * 2, none⟩ = some (.string b2.k) := hb0
              clear hb0
              have hb0 := hb0'
              clear hb0'
              have hb1' : (W3.drewN nq).cell? ⟨b', o' + j * 2 + 1, none⟩ = some (.string b2.v) := hb1
              clear hb1
              have hb1 := hb1'
              clear hb1'
              generalize World.drewN W3 nq = W4 at *
              go_wp2_with (first | (go_at_call 140; refine (there_any b2 _).mono ?_; rintro e wt ⟨rfl, hbt⟩; have HMT := Lib.hid (HM5.out.go hbt); clear hbt) | (at_builtin; refine catC (HMT.out.alloc _) [there b2] _ 1 1 rfl (Ls.new _ (there b2) _ _ (Nat.lt_succ_self _)) (by omega) rfl _ _ rfl rfl rfl ?_; intro v3 w3 hM3 hG3; have HM3 := Lib.hid hM3; clear hM3 hG3))
              exact ⟨⟨i + 1, j + 1, O ++ [there b2], by omega, by omega, by go_num, by go_num, HAT.out, HM3.out⟩, by simp [intOf] <;> omega⟩
      · have q3 : ((j : Int) == (m : Int)) = true := by rw [beq_iff_eq]; omega
        have HAT := Lib.hid ((Hid.out hat).left ha (by rw [← HN'.out]; omega))
        clear hat ha hmk
        go_wp2_with fail
        go_big_quiet (fail)
        have HM2 := Lib.hid (HM.out.drewN nq)
        clear HM
        have ha0' : (wr.drewN nq).cell? ⟨b, o + i * 2, none⟩ = some (.string a.k) := ha0
        clear ha0
        have ha0 := ha0'
        clear ha0'
        have ha1' : (wr.drewN nq).cell? ⟨b, o + i * 2 + 1, none⟩ = some (.string a.v) := ha1
        clear ha1
        have ha1 := ha1'
        clear ha1'
        generalize World.drewN wr nq = W2 at *
        go_wp2_with (at_builtin; refine catC (HM2.out.alloc _) [gone a] _ 1 1 rfl (Ls.new _ (gone a) _ _ (Nat.lt_succ_self _)) (by omega) rfl _ _ rfl rfl rfl ?_; intro v3 w3 hM3 hG3; have HM3 := Lib.hid hM3; clear hM3 hG3)
        exact ⟨⟨i + 1, j, O ++ [gone a], by omega, by omega, by go_num, by go_num, HAT.out, HM3.out⟩, by simp [intOf] <;> omega⟩
    · have q1 : ((i : Int) == (n : Int)) = true := by rw [beq_iff_eq]; omega
      have q2 : decide ((i : Int) < (n : Int)) = false := by rw [decide_eq_false_iff_not]; omega
      by_cases hjm : j < m
      · have q3 : ((j : Int) == (m : Int)) = false := by rw [beq_eq_false_iff_ne]; omega
        obtain ⟨b2, hb2⟩ : ∃ b2, Y[j]? = some b2 := ⟨_, List.getElem?_eq_getElem (by rw [← HN'.out]; exact hjm)⟩
        obtain ⟨b', o', hAe, hb', hr⟩ := (HY.out.below ((Hid.out hmk).2.mono hB')) j b2 hb2
        have hb0 : wr.cell? ⟨b', o' + j * 2, none⟩ = some (.string b2.k) := hr 0 _ rfl
        have hb1 : wr.cell? ⟨b', o' + j * 2 + 1, none⟩ = some (.string b2.v) := hr 1 _ rfl
        clear hr
        subst hAe
        have HAT := Lib.hid ((Hid.out hat).right (by rw [← HN.out]; omega) hb2)
        clear hat hb2 hmk
        go_wp2_with fail
        go_big_quiet (fail)
        have HM2 := Lib.hid (HM.out.drewN nq)
        clear HM
        have hb0' : (wr.drewN nq).cell? ⟨b', o' + j * 2, none⟩ = some (.string b2.k) := hb0
        clear hb0
        have hb0 := hb0'
        clear hb0'
        have hb1' : (wr.drewN nq).cell? ⟨b', o' + j * 2 + 1, none⟩ = some (.string b2.v) := hb1
        clear hb1
        have hb1 := hb1'
        clear hb1'
        generalize World.drewN wr nq = W2 at *
        go_wp2_with fail
        go_big_quiet (fail)
        have HM4 := Lib.hid (HM2.out.drewN nq)
        clear HM2
        have hb0' : (W2.drewN nq).cell? ⟨b', o' + j * 2, none⟩ = some (.string b2.k) := hb0
        clear hb0
        have hb0 := hb0'
        clear hb0'
        have hb1' : (W2.drewN nq).cell? ⟨b', o' + j * 2 + 1, none⟩ = some (.string b2.v) := hb1
        clear hb1
        have hb1 := hb1'
        clear hb1'
        generalize World.drewN W2 nq = W3 at *
        go_wp2_with (first | (go_at_call 140; refine (there_any b2 _).mono ?_; rintro e wt ⟨rfl, hbt⟩; have HMT := Lib.hid (HM4.out.go hbt); clear hbt) | (at_builtin; refine catC (HMT.out.alloc _) [there b2] _ 1 1 rfl (Ls.new _ (there b2) _ _ (Nat.lt_succ_self _)) (by omega) rfl _ _ rfl rfl rfl ?_; intro v3 w3 hM3 hG3; have HM3 := Lib.hid hM3; clear hM3 hG3))
        exact ⟨⟨i, j + 1, O ++ [there b2], by omega, by omega, by go_num, by go_num, HAT.out, HM3.out⟩, by simp [intOf] <;> omega⟩
      · have q3 : ((j : Int) == (m : Int)) = true := by rw [beq_iff_eq]; omega
        have HO := Lib.hid ((Hid.out hat).done (by rw [← HN.out]; omega) (by rw [← HN'.out]; omega))
        clear hat
        go_wp2
        rw [Exit.noGoto_ret]
        go_ret
        exact ⟨_, rfl, by rw [← HO.out]; exact HM.out⟩
end Go.Proofs.YtjkmfonngbendaaGreatDoor.It
/- Contracts of package item's Diff and Apply. -/
namespace Go.Proofs.YtjkmfonngbendaaGreatDoor.It
set_option linter.unusedVariables false
set_option maxRecDepth 100000
open Go.ChangeShapes Go.WideShapes Go.ChangeAt Go.RowKit
open Ar Rg St
open BigFrame
set_option maxRecDepth 100000 in
set_option maxHeartbeats 1000000 in
theorem diff_any (X Y : List Itm) (A A' : Option Addr) (n c m c' B B' : Nat) (hn : n = X.length) (hm : m = Y.length) (hlen : n ≤ 1099511627776) (hlen' : m ≤ 1099511627776) (w : World) (hB : B ≤ w.heap.size) (hB' : B' ≤ w.heap.size) (hX : Ls enc 2 w B A X) (hY : Ls enc 2 w B' A' Y) :
    Calls Tryz.prog 49 #[.slice A n c, .slice A' m c'] w fun e w' => ∃ v, e = .returned (.tuple #[v, .int .i64 (er (rt X && rt Y))]) ∧ MkC w w' v (if rt X && rt Y then dif X Y else []) := by
  have HX := Lib.hid hX
  have HY := Lib.hid hY
  have HN := Lib.hid hn
  have HN' := Lib.hid hm
  have HC := Lib.hid (rightList_any X A n c B hn (by omega) w hB hX)
  clear hn hm hX hY
  cases hx : rt X
  · rw [hx] at HC
    clear hx
    go_enter Tryz.func49, Tryz.ntmps49
    go_wp2_with (go_at_call 41; refine HC.out.mono ?_; rintro e w1 ⟨rfl, hb1⟩; have HB1 := Lib.hid hb1; clear hb1)
    go_ret2
    exact ⟨_, rfl, Mk.nil HB1.out⟩
  · rw [hx] at HC
    clear hx
    cases hy : rt Y
    · go_enter Tryz.func49, Tryz.ntmps49
      go_wp2_with fail
      go_at_call 41
      refine HC.out.mono ?_
      rintro e w1 ⟨rfl, hb1⟩
      have HB1 := Lib.hid hb1
      clear hb1 HC
      go_wp2_with fail
      go_at_call 41
      refine (rightList_any Y A' m c' B' HN'.out (by omega) w1 (Nat.le_trans hB' HB1.out.size) (HY.out.below (HB1.out.mono hB'))).mono ?_
      rintro e w2 ⟨rfl, hb2⟩
      have HB2 := Lib.hid (HB1.out.trans (hb2.mono HB1.out.size))
      clear hb2 HB1
      rw [hy]
      clear hy
      go_wp2
      go_ret2
      exact ⟨_, rfl, Mk.nil HB2.out⟩
    · go_enter Tryz.func49, Tryz.ntmps49
      go_wp2_with fail
      go_at_call 41
      refine HC.out.mono ?_
      rintro e w1 ⟨rfl, hb1⟩
      have HB1 := Lib.hid hb1
      clear hb1 HC
      go_wp2_with fail
      go_at_call 41
      refine (rightList_any Y A' m c' B' HN'.out (by omega) w1 (Nat.le_trans hB' HB1.out.size) (HY.out.below (HB1.out.mono hB'))).mono ?_
      rintro e w2 ⟨rfl, hb2⟩
      have HB2 := Lib.hid (HB1.out.trans (hb2.mono HB1.out.size))
      clear hb2 HB1
      rw [hy]
      clear hy
      go_wp2_with fail
      go_at_call 90
      refine (apart_any X Y A A' n c m c' B B' HN.out HN'.out hlen hlen' w2 (Nat.le_trans hB HB2.out.size) (Nat.le_trans hB' HB2.out.size) (HX.out.below (HB2.out.mono hB)) (HY.out.below (HB2.out.mono hB'))).mono ?_
      rintro e w3 ⟨v, rfl, hM⟩
      have HM := Lib.hid (hM.since HB2.out)
      clear hM
      go_wp2
      go_ret2
      exact ⟨_, rfl, HM.out⟩
set_option maxRecDepth 100000 in
set_option maxHeartbeats 1000000 in
theorem apply_any (D : List Itm) (C : List Ch) (A A' : Option Addr) (n c m c' B B' : Nat) (hn : n = D.length) (hc : n ≤ c) (hcm : c ≤ maxLen) (hm : m = C.length) (hlen : n ≤ 1099511627776) (hlen' : m ≤ 1099511627776) (w : World) (hB : B ≤ w.heap.size) (hB' : B' ≤ w.heap.size) (hX : Ls enc 2 w B A D) (hY : Ls Sc.enc 3 w B' A' C) :
    Calls Tryz.prog 16 #[.slice A n c, .slice A' m c'] w fun e w' => ∃ v, e = .returned (.tuple #[v, .int .i64 (er (rt D && rc C))]) ∧ MkI w w' v (if rt D && rc C then app D C else []) := by
  have HX := Lib.hid hX
  have HY := Lib.hid hY
  have HN := Lib.hid hn
  have HN' := Lib.hid hm
  have HC := Lib.hid (rightList_any D A n c B hn (by omega) w hB hX)
  clear hn hm hX hY
  cases hx : rt D
  · rw [hx] at HC
    clear hx
    go_enter Tryz.func16, Tryz.ntmps16
    go_wp2_with (go_at_call 41; refine HC.out.mono ?_; rintro e w1 ⟨rfl, hb1⟩; have HB1 := Lib.hid hb1; clear hb1)
    go_ret2
    exact ⟨_, rfl, Mk.nil HB1.out⟩
  · have HR := Lib.hid hx
    rw [hx] at HC
    clear hx
    cases hy : rc C
    · go_enter Tryz.func16, Tryz.ntmps16
      go_wp2_with fail
      go_at_call 41
      refine HC.out.mono ?_
      rintro e w1 ⟨rfl, hb1⟩
      have HB1 := Lib.hid hb1
      clear hb1 HC
      go_wp2_with fail
      go_at_call 42
      refine (rightChanges_any C A' m c' B' HN'.out (by omega) w1 (Nat.le_trans hB' HB1.out.size) (HY.out.below (HB1.out.mono hB'))).mono ?_
      rintro e w2 ⟨rfl, hb2⟩
      have HB2 := Lib.hid (HB1.out.trans (hb2.mono HB1.out.size))
      clear hb2 HB1
      rw [hy]
      clear hy
      go_wp2
      go_ret2
      exact ⟨_, rfl, Mk.nil HB2.out⟩
    · go_enter Tryz.func16, Tryz.ntmps16
      go_wp2_with fail
      go_at_call 41
      refine HC.out.mono ?_
      rintro e w1 ⟨rfl, hb1⟩
      have HB1 := Lib.hid hb1
      clear hb1 HC
      go_wp2_with fail
      go_at_call 42
      refine (rightChanges_any C A' m c' B' HN'.out (by omega) w1 (Nat.le_trans hB' HB1.out.size) (HY.out.below (HB1.out.mono hB'))).mono ?_
      rintro e w2 ⟨rfl, hb2⟩
      have HB2 := Lib.hid (HB1.out.trans (hb2.mono HB1.out.size))
      clear hb2 HB1
      rw [hy]
      clear hy
      go_wp2_with fail
      go_at_call 44
      refine (lastOfEach_any C A' m c' B' HN'.out hlen' w2 (Nat.le_trans hB' HB2.out.size) (HY.out.below (HB2.out.mono hB'))).mono ?_
      rintro e w3 ⟨v, S, rfl, hs1, hs2, hs3, hM⟩
      obtain ⟨A2, c2, hv, hc2, hcm2, hL2⟩ := hM.ls Sc.enc_len
      have HM := Lib.hid (hM.since HB2.out)
      have HS := Lib.hid (And.intro hs1 hs2)
      have HL2 := Lib.hid hL2
      have hln : (lasts S).length ≤ 1099511627776 := by have := lasts_len S; omega
      clear hM hs1 hs2 hs3 hL2
      obtain ⟨m2, hm2⟩ : ∃ m2, m2 = (lasts S).length := ⟨_, rfl⟩
      rw [← hm2] at hv hln hc2
      have HM2 := Lib.hid hm2
      subst hv
      clear hm2
      go_wp2_with fail
      go_at_call 43
      refine (changed_any D (lasts S) A A2 n c m2 c2 B _ HN.out hc hcm HM2.out hlen hln (rt_iff.1 HR.out).1 (lasts_spec S HS.out.1).1 w3 (Nat.le_trans hB HM.out.2.size) (Nat.le_refl _) (HX.out.below (HM.out.2.mono hB)) HL2.out).mono ?_
      rintro e w4 ⟨v, rfl, hM⟩
      have HM3 := Lib.hid (show MkI w w4 v (app D C) from (app_lasts (rt_iff.1 HR.out).1 HS.out.1 HS.out.2) ▸ hM.since HM.out.2)
      clear hM
      go_wp2
      go_ret2
      exact ⟨_, rfl, HM3.out⟩
end Go.Proofs.YtjkmfonngbendaaGreatDoor.It
/- How arguments are opened: slices whose elements are structs of plain cells; how the bound of a statement reaches their lengths. -/
namespace Go.Proofs.YtjkmfonngbendaaGreatDoor.Fr
set_option linter.unusedVariables false
open Go.ChangeShapes Go.WideShapes Go.RowKit Go.Deep
open Ar
theorem list_of {α : Type} {p : Nat → α → Prop} : ∀ n : Nat, (∀ i, i < n → ∃ x, p i x) → ∃ D : List α, D.length = n ∧ ∀ i x, D[i]? = some x → p i x
  | 0, _ => ⟨[], rfl, fun i x h => by simp at h⟩
  | n + 1, h => by
    obtain ⟨D, h1, h2⟩ := list_of n fun i hi => h i (by omega)
    obtain ⟨y, hy⟩ := h n (by omega)
    refine ⟨D ++ [y], by simp [h1], fun i x hx => ?_⟩
    rcases Nat.lt_or_ge i n with hlt | hge
    · rw [List.getElem?_append_left (by omega)] at hx; exact h2 i x hx
    · rw [List.getElem?_append_right (by omega), h1] at hx
      have : i = n := by
        rcases Nat.lt_or_ge n i with h3 | h3
        · rw [List.getElem?_eq_none (by simp; omega)] at hx; cases hx
        · omega
      subst this
      simp at hx; subst hx; exact hy
section
variable {H : Type} {enc : TypeId × Value → H} {P : Program} {w : World} {base : Nat} {spare : Nat → Bool} {held : Bool}
theorem open_ls {α : Type} (en : α → List Value) (k : Nat) {t e : TypeId} {fuel : Nat} {v : Value} {x : DataW H × List MemPlace} (ht : P.underlying t = some (.slice e)) (hk : P.cellsOf e = k) (hk0 : 0 < k)
    (hr : ∀ n cs y, cs.length = k → DataW.trod enc P w base spare held n e cs = some y → ∃ x : α, cs = en x) (hv : v.cells = #[v]) (h : DataW.trod enc P w base spare held fuel t v.cells.toList = some x) :
    (v = .slice none 0 0 ∧ x.1 = .nil) ∨ ∃ A n c m D, v = .slice A n c ∧ n = List.length D ∧ n ≤ c ∧ c ≤ maxLen ∧ Ls en k w w.heap.size A D ∧ ∃ E F, x.1 = .slice E F ∧ E.length = n ∧ E.length + F.length = m := by
  rw [hv] at h
  rcases open_slice ht h with ⟨h1, h2⟩ | ⟨a, len, cap, m, n, D, Pl, hcs, hb, hl, hm, hmm, hx, hi⟩
  · left; simp at h1; exact ⟨h1, by rw [h2]⟩
  · right
    have hlm : len ≤ m := by rw [hmm]; split <;> omega
    simp at hcs
    rw [hk] at hi
    obtain ⟨L, hL1, hL2⟩ := list_of (α := α) (p := fun i x => ∃ b o, (some a : Option Addr) = some ⟨b, o, none⟩ ∧ b < w.heap.size ∧ w.rangeAt b (o + i * k) (en x)) len fun i hil => by
      have hspot : a.spot = none := by
        obtain ⟨cs', h1, h2⟩ := hi 0 (by omega)
        obtain ⟨_, hlen, hcell⟩ := World.cells?_some h1
        have hc0 := (hcell 0 hk0).trans (List.getElem?_eq_getElem (by omega))
        rw [add_add, Nat.zero_mul] at hc0
        have := World.cell?_spot hc0
        simpa [Addr.add] using this
      obtain ⟨cs', h1, h2⟩ := hi i (by omega)
      obtain ⟨_, hlen, hcell⟩ := World.cells?_some h1
      obtain ⟨x, rfl⟩ := hr _ _ _ hlen h2
      have hc0 := (hcell 0 hk0).trans (List.getElem?_eq_getElem (by omega))
      rw [add_add] at hc0
      obtain ⟨b, o, spot⟩ := a
      simp only at hspot
      subst hspot
      refine ⟨x, b, o, rfl, ?_, fun j u hu => ?_⟩
      · have := World.block_lt_of_cell? w _ hc0
        rw [Ar.add_plain] at this
        exact this
      · have hj : j < k := by rw [← hlen]; exact (List.getElem?_eq_some_iff.1 hu).1
        have := hcell j hj
        rw [add_add, Ar.add_plain, ← Nat.add_assoc, hu] at this
        exact this
    refine ⟨some a, len, cap, m, L, hcs, hL1.symm, hl, hm, hL2, (List.range len).map D, (List.range (m - len)).map fun j => D (len + j), by rw [hx], by simp, ?_⟩
    simp
    omega
end
end Go.Proofs.YtjkmfonngbendaaGreatDoor.Fr
