/- Items as elements of two cells; lists of structs that came in; the contract of package item's rightKey. -/
import Derived.Test.YtjkapmghifglcaaDoorRows
import Derived.Test.YtjkapmghifglcaaDoorBy
import Derived.Test.YtjkapmghifglcaaDoorReg
import Derived.Test.YtjkapmghifglcaaDoorLs
import Derived.Test.YtjkapmghifglcaaDoorMgE
import Derived.LoopTactic
import Derived.OwnWalk
import Derived.BigQuiet
import Derived.WalkLawsBesides
import Derived.WalkSpells
import Derived.Lib.Hide
namespace Go.Proofs.YtjkapmghifglcaaDoor.It
set_option linter.unusedVariables false
open Go.ChangeShapes Go.WideShapes Go.ChangeAt Go.RowKit
open Ar Rg St
structure Itm where
  k : ByteArray
  v : ByteArray
def enc (c : Itm) : List Value := [.string c.k, .string c.v]
theorem enc_len (x : Itm) : (enc x).length = 2 := rfl
def key (c : Itm) : List UInt8 := c.k.data.toList
def okKey (k : ByteArray) : Bool := decide (k.size ≠ 0) && decide (k.size ≤ 48)
theorem rightKey_any (k : ByteArray) (w : World) :
    Calls Tryd.prog 63 #[.string k] w fun e w' => e = .returned (.bool (okKey k)) ∧ w = w' := by
  by_cases h0 : k.size = 0
  · have e0 : okKey k = false := by simp [okKey, h0]
    have hk : k = { data := #[] } := by
      obtain ⟨d⟩ := k
      congr
      exact Array.eq_empty_of_size_eq_zero h0
    rw [e0]
    subst hk
    go_enter Tryd.func63, Tryd.ntmps63
    go_wp2_with fail
    go_ret
    exact ⟨rfl, rfl⟩
  · have hk : k.toList.isEmpty = false := by
      rw [Bool.eq_false_iff]
      intro h
      have h2 : k.toList = [] := List.isEmpty_iff.1 h
      rw [ByteArray.toList_eq] at h2
      have h3 : k.data.size = 0 := by rw [← Array.length_toList, h2]; rfl
      exact h0 h3
    have e0 : okKey k = decide ((k.size : Int) ≤ 48) := by
      unfold okKey
      rw [decide_eq_true (show k.size ≠ 0 from h0), Bool.true_and]
      exact decide_eq_decide.2 (by omega)
    rw [e0]
    go_enter Tryd.func63, Tryd.ntmps63
    go_wp2_with fail
    go_ret
    exact ⟨rfl, rfl⟩
end Go.Proofs.YtjkapmghifglcaaDoor.It
/- Contract of package item's rightList. -/
namespace Go.Proofs.YtjkapmghifglcaaDoor.It
set_option linter.unusedVariables false
open Go.ChangeShapes Go.WideShapes Go.ChangeAt Go.RowKit
open Ar Rg St
def okI (x : Itm) : Bool := okKey x.k && decide (x.v.size ≤ 160)
def rtFrom : Option Itm → List Itm → Bool
  | _, [] => true
  | none, x :: r => okI x && rtFrom (some x) r
  | some y, x :: r => okI x && (By.bl (key y) (key x) && rtFrom (some x) r)
def rt (D : List Itm) : Bool := rtFrom none D
theorem take_last {D : List Itm} {k : Nat} {y : Itm} (h : D[k]? = some y) : (D.take (k + 1)).getLast? = some y := by
  rw [List.getLast?_take]
  simp [h]
theorem drop_at {D : List Itm} {k : Nat} {y : Itm} (h : D[k]? = some y) : D.drop k = y :: D.drop (k + 1) := by
  obtain ⟨hk, e⟩ := List.getElem?_eq_some_iff.1 h
  rw [List.drop_eq_getElem_cons hk, e]
def RtAt (D : List Itm) (i : Nat) : Prop := rt D = rtFrom ((D.take i).getLast?) (D.drop i)
theorem RtAt.zero (D : List Itm) : RtAt D 0 := rfl
theorem RtAt.last {D : List Itm} {i : Nat} (h : RtAt D i) (hi : D.length ≤ i) : rt D = true := by
  unfold RtAt at h
  rw [h, List.drop_eq_nil_of_le hi]
  cases (List.take i D).getLast? <;> rfl
theorem RtAt.bad {D : List Itm} {i : Nat} {x : Itm} (h : RtAt D i) (hx : D[i]? = some x) (hb : okI x = false) : rt D = false := by
  unfold RtAt at h
  rw [h, drop_at hx]
  cases (List.take i D).getLast? <;> simp [rtFrom, hb]
theorem RtAt.first {D : List Itm} {x : Itm} (h : RtAt D 0) (hx : D[0]? = some x) (hb : okI x = true) : RtAt D 1 := by
  unfold RtAt at h ⊢
  rw [h, drop_at hx, take_last hx]
  show (okI x && rtFrom (some x) (List.drop 1 D)) = _
  rw [hb, Bool.true_and]
theorem RtAt.more {D : List Itm} {k : Nat} {x y : Itm} (h : RtAt D (k + 1)) (hy : D[k]? = some y) (hx : D[k + 1]? = some x) (hb : okI x = true) (hl : By.bl (key y) (key x) = true) : RtAt D (k + 2) := by
  unfold RtAt at h ⊢
  rw [h, drop_at hx, take_last hx, take_last hy]
  show (okI x && (By.bl (key y) (key x) && rtFrom (some x) (List.drop (k + 2) D))) = _
  rw [hb, hl, Bool.true_and, Bool.true_and]
theorem RtAt.down {D : List Itm} {k : Nat} {x y : Itm} (h : RtAt D (k + 1)) (hy : D[k]? = some y) (hx : D[k + 1]? = some x) (hl : By.bl (key y) (key x) = false) : rt D = false := by
  unfold RtAt at h
  rw [h, drop_at hx, take_last hy]
  show (okI x && (By.bl (key y) (key x) && _)) = _
  rw [hl, Bool.false_and, Bool.and_false]
theorem str_le (a b : ByteArray) : (Op.bytesLess a.toList b.toList || a.toList == b.toList) = !By.bl b.data.toList a.data.toList := by
  rw [ByteArray.toList_eq, ByteArray.toList_eq]
  show (By.bl a.data.toList b.data.toList || _) = _
  generalize a.data.toList = x
  generalize b.data.toList = y
  cases h : By.bl y x
  · cases h2 : By.bl x y
    · have := By.blOrd.tri x y h2 h
      subst this
      simp
    · rfl
  · rw [By.blOrd.asymm y x h, Bool.false_or]
    rw [Bool.not_true, beq_eq_false_iff_ne]
    exact (By.blOrd.ne h).symm
theorem below_drewN {B : Nat} {w w' : World} (h : Below B w w') (n : Nat) : Below B w (w'.drewN n) := ⟨h.os, h.tape, h.output, h.size, h.block⟩
set_option maxRecDepth 100000 in
set_option maxHeartbeats 600000 in
theorem rightList_any (D : List Itm) (A : Option Addr) (n cap B : Nat) (hn : n = D.length) (hm : n ≤ 281474976710656) (w : World) (hB : B ≤ w.heap.size) (hD : Ls enc 2 w B A D) :
    Calls Tryd.prog 48 #[.slice A n cap] w fun e w' => e = .returned (.bool (rt D)) ∧ Below w.heap.size w w' := by
  have HN := Lib.hid hn
  have HD := Lib.hid hD
  clear hn hD
  go_enter Tryd.func48, Tryd.ntmps48
  go_wp2_with fail
  go_loopw [7] (fun v wr => ∃ i : Nat, i ≤ n ∧ v = .int .i64 i ∧ Hid (RtAt D i) ∧ Hid (Below w.heap.size w wr)) (fun v _ => n - (intOf v).toNat)
  case atStart => exact ⟨0, Nat.zero_le _, by go_num, RtAt.zero D, Below.refl _ _⟩
  case round =>
    obtain ⟨i, hi, rfl, hrt, hbel⟩ := hrel
    by_cases hlt : i < n
    · obtain ⟨x, hx⟩ : ∃ x, D[i]? = some x := ⟨_, List.getElem?_eq_getElem (by rw [← HN.out]; exact hlt)⟩
      have hL := HD.out.below ((Hid.out hbel).mono hB)
      obtain ⟨b, o, hAe, hb, hr⟩ := hL i x hx
      have hbs : b < wr.heap.size := Nat.lt_of_lt_of_le hb (Nat.le_trans hB (Hid.out hbel).size)
      have hc0 : wr.cell? ⟨b, o + i * 2, none⟩ = some (.string x.k) := hr 0 _ rfl
      have hc1 : wr.cell? ⟨b, o + i * 2 + 1, none⟩ = some (.string x.v) := hr 1 _ rfl
      have HL := Lib.hid hL
      clear hL hr
      subst hAe
      have HBN := Lib.hid (show Below w.heap.size w (wr.alloc (.cells #[.string x.k, .string x.v] 52)) from (Hid.out hbel).alloc (Hid.out hbel).size _)
      obtain ⟨q, hq⟩ : ∃ q, q = okKey x.k := ⟨_, rfl⟩
      have hqc := rightKey_any x.k
      rw [← hq] at hqc
      have HQC := Lib.hid hqc
      clear hqc
      by_cases hok : okI x = true
      · have hq1 : q = true := by rw [hq]; simp [okI] at hok; exact hok.1
        have hv : x.v.size ≤ 160 := by simp [okI] at hok; exact hok.2
        have hv1 : (x.v.size : Int) ≤ 160 := by omega
        subst hq1
        clear hq
        go_wp2_with (go_at_call 63; refine (HQC.out _).mono ?_; rintro e w1 ⟨rfl, rfl⟩)
        have hcx : (wr.alloc (.cells #[.string x.k, .string x.v] 52)).cell? ⟨wr.heap.size, 0, none⟩ = some (.string x.k) := by simp
        by_cases hi0 : i = 0
        · subst hi0
          have HRT := Lib.hid ((Hid.out hrt).first hx hok)
          clear hrt hx hi
          generalize wr.alloc _ = W1 at *
          go_quiet (fail)
          have HB2 := Lib.hid (below_drewN HBN.out nq)
          clear HBN hbel
          generalize World.drewN _ _ = W2 at *
          go_wp2
          exact ⟨⟨1, by omega, by go_num, HRT.out, HB2.out⟩, by simp [intOf] <;> omega⟩
        · obtain ⟨k, hk⟩ : ∃ k, i = k + 1 := ⟨i - 1, by omega⟩
          have hk1 : (i : Int) - 1 = (k : Int) := by omega
          have hk2 : (0 : Int) < (i : Int) := by omega
          have hk3 : (k : Int) < (n : Int) := by omega
          obtain ⟨y, hy⟩ : ∃ y, D[k]? = some y := ⟨_, List.getElem?_eq_getElem (by rw [← HN.out]; omega)⟩
          obtain ⟨b2, o2, hAe, hb2, hr⟩ := HL.out k y hy
          cases hAe
          have hcy : (wr.alloc (.cells #[.string x.k, .string x.v] 52)).cell? ⟨b, o + k * 2, none⟩ = some (.string y.k) := by
            rw [World.cell?_alloc_lt _ _ _ hbs]
            exact hr 0 _ rfl
          subst hk
          clear hr
          by_cases hl : By.bl (key y) (key x) = true
          · have hl1 : (Op.bytesLess x.k.toList y.k.toList || x.k.toList == y.k.toList) = false := by
              rw [str_le]; show (!By.bl (key y) (key x)) = false; rw [hl]; rfl
            have HRT := Lib.hid ((Hid.out hrt).more hy hx hok hl)
            clear hrt hx hy hl
            generalize wr.alloc _ = W1 at *
            go_quiet (fail)
            have HB2 := Lib.hid (below_drewN HBN.out nq)
            clear HBN hbel
            generalize World.drewN _ _ = W2 at *
            go_wp2
            exact ⟨⟨k + 2, by omega, by go_num, HRT.out, HB2.out⟩, by simp [intOf] <;> omega⟩
          · have hl0 : By.bl (key y) (key x) = false := by simpa using hl
            have hl1 : (Op.bytesLess x.k.toList y.k.toList || x.k.toList == y.k.toList) = true := by
              rw [str_le]; show (!By.bl (key y) (key x)) = true; rw [hl0]; rfl
            have HRT := Lib.hid ((Hid.out hrt).down hy hx hl0)
            clear hrt hx hy hl hl0
            generalize wr.alloc _ = W1 at *
            go_quiet (fail)
            have HB2 := Lib.hid (below_drewN HBN.out nq)
            clear HBN hbel
            generalize World.drewN _ _ = W2 at *
            go_wp2
            go_ret
            exact ⟨by rw [HRT.out]; rfl, HB2.out⟩
      · have hok1 : okI x = false := by simpa using hok
        have HF := Lib.hid ((Hid.out hrt).bad hx hok1)
        by_cases hq1 : q = true
        · have hv : ¬ x.v.size ≤ 160 := by
            intro h
            rw [okI, ← hq, hq1, decide_eq_true h] at hok1
            cases hok1
          have hv1 : (160 : Int) < (x.v.size : Int) := by omega
          subst hq1
          clear hq
          go_wp2_with (go_at_call 63; refine (HQC.out _).mono ?_; rintro e w1 ⟨rfl, rfl⟩)
          go_ret
          exact ⟨by rw [HF.out]; rfl, HBN.out⟩
        · have hq1 : q = false := by simpa using hq1
          subst hq1
          clear hq
          go_wp2_with (go_at_call 63; refine (HQC.out _).mono ?_; rintro e w1 ⟨rfl, rfl⟩)
          go_ret
          exact ⟨by rw [HF.out]; rfl, HBN.out⟩
    · have HF := Lib.hid ((Hid.out hrt).last (by rw [← HN.out]; omega))
      go_wp2
      go_ret
      exact ⟨by rw [HF.out]; rfl, Hid.out hbel⟩
end Go.Proofs.YtjkapmghifglcaaDoor.It
/- Contracts of package item's Check and of the document's key and Check. -/
namespace Go.Proofs.YtjkapmghifglcaaDoor.It
set_option linter.unusedVariables false
open Go.ChangeShapes Go.WideShapes Go.ChangeAt Go.RowKit
open Ar Rg St
def errF (b : Bool) : Value := .int .i64 (if b then 0 else 4)
theorem check_any (D : List Itm) (A : Option Addr) (n cap B : Nat) (hn : n = D.length) (hm : n ≤ 281474976710656) (w : World) (hB : B ≤ w.heap.size) (hD : Ls enc 2 w B A D) :
    Calls Tryd.prog 30 #[.slice A n cap] w fun e w' => e = .returned (errF (rt D)) ∧ Below w.heap.size w w' := by
  have HC := Lib.hid (rightList_any D A n cap B hn hm w hB hD)
  clear hD hn
  generalize rt D = q at *
  cases q
  · go_enter Tryd.func30, Tryd.ntmps30
    go_wp2_with (go_at_call 48; refine HC.out.mono ?_; rintro e w1 ⟨rfl, hb1⟩)
    go_ret
    exact ⟨rfl, by assumption⟩
  · go_enter Tryd.func30, Tryd.ntmps30
    go_wp2_with (go_at_call 48; refine HC.out.mono ?_; rintro e w1 ⟨rfl, hb1⟩)
    go_ret
    exact ⟨rfl, by assumption⟩
end Go.Proofs.YtjkapmghifglcaaDoor.It
/- Contract of package item's place: where a key stands in a list, by halves. -/
namespace Go.Proofs.YtjkapmghifglcaaDoor.It
set_option linter.unusedVariables false
open Go.ChangeShapes Go.WideShapes Go.ChangeAt Go.RowKit
open Ar Rg St
set_option maxRecDepth 100000 in
theorem compareString_any (a b : ByteArray) (w : World) :
    Calls Tryd.prog 83 #[.string a, .string b] w fun e w' => e = .returned (.int .i64 (Lib.compareBytes a.data.toList b.data.toList)) ∧ w = w' := by
  go_enter Tryd.func83, Tryd.ntmps83
  go_wp2_with fail
  rw [run_callFunc_extern Tryd.func98 (by kernel_rfl) (by kernel_rfl) (by kernel_rfl) (e := Extern.BytealgCompare.compare) (by kernel_rfl), Lib.run_compareString]
  simp only [Result.andThen]
  rw [Oper.upon_value]
  go_wp2
  go_ret
  exact ⟨rfl, rfl⟩
theorem compare_any (a b : ByteArray) (w : World) :
    Calls Tryd.prog 66 #[.string a, .string b] w fun e w' => e = .returned (.int .i64 (Lib.compareBytes a.data.toList b.data.toList)) ∧ w = w' := by
  go_enter Tryd.func66, Tryd.ntmps66
  go_wp2_with (go_at_call 83; refine (compareString_any _ _ _).mono ?_; rintro e w' ⟨rfl, rfl⟩)
  go_ret
  exact ⟨rfl, rfl⟩
abbrev lt := By.bl
theorem O : Ord lt := By.blOrd
def icf (x : Itm) (k : ByteArray) : Int := Lib.compareBytes (key x) k.data.toList
theorem placeCmp_any (x : Itm) (k : ByteArray) (w : World) :
    Calls Tryd.prog 65 #[.agg (enc x).toArray, .string k] w fun e w' => e = .returned (.int .i64 (icf x k)) ∧ Below w.heap.size w w' := by
  show Calls Tryd.prog 65 #[.agg #[.string x.k, .string x.v], .string k] w _
  have HG := Lib.hid (show Below w.heap.size w (w.alloc (.cells #[.string x.k, .string x.v] 52)) from (Below.refl _ w).alloc (Nat.le_refl _) _)
  go_enter Tryd.func65, Tryd.ntmps65
  go_wp2_with (go_at_call 66; refine (compare_any _ _ _).mono ?_; rintro e w' ⟨rfl, rfl⟩)
  go_ret
  exact ⟨rfl, HG.out⟩
theorem take_ltI {Y : List Itm} {p : Nat} {k : List UInt8} (hs : Srt key lt Y) (h : p = 0 ∨ ∃ z, Y[p - 1]? = some z ∧ lt (key z) k = true) : ∀ y ∈ Y.take p, lt (key y) k = true := by
  rcases h with rfl | ⟨z, hz, hlt⟩
  · simp
  · rcases Nat.eq_zero_or_pos p with h0 | h0
    · subst h0; simp
    · intro y hy
      have e : Y.take p = Y.take (p - 1) ++ [z] := by
        rw [show p = (p - 1) + 1 by omega, List.take_add_one, show (p - 1 + 1) - 1 = p - 1 by omega] 
        rw [hz]; rfl
      rw [e] at hy
      have hs' : Srt key lt (Y.take (p - 1) ++ [z]) := by rw [← e]; exact List.Pairwise.sublist (List.take_sublist _ _) hs
      rcases List.mem_append.1 hy with hy | hy
      · exact O.le_lt ((Srt.append.1 hs').2.2 y hy z (by simp)) hlt
      · simp at hy; subst hy; exact hlt
theorem drop_geI {Y : List Itm} {p : Nat} {k : List UInt8} (hs : Srt key lt Y) (h : p = Y.length ∨ ∃ z, Y[p]? = some z ∧ lt (key z) k = false) : ∀ y ∈ Y.drop p, lt (key y) k = false := by
  rcases h with rfl | ⟨z, hz, hlt⟩
  · simp
  · obtain ⟨hp, e⟩ := List.getElem?_eq_some_iff.1 hz
    have e2 : Y.drop p = z :: Y.drop (p + 1) := by rw [List.drop_eq_getElem_cons hp, e]
    have hs' : Srt key lt (z :: Y.drop (p + 1)) := by rw [← e2]; exact List.Pairwise.sublist (List.drop_sublist _ _) hs
    rw [e2]
    intro y hy
    rcases List.mem_cons.1 hy with rfl | hy
    · exact hlt
    · have : Srt key lt ([z] ++ Y.drop (p + 1)) := hs'
      exact O.le_trans hlt ((Srt.append.1 this).2.2 z (by simp) y hy)
def GI (D : List Itm) (k : ByteArray) (c : Nat) : Bool := match D[c]? with | some z => !lt (key z) k.data.toList | none => false
theorem GI_at {D : List Itm} {k : ByteArray} {z : Itm} {c : Nat} (h : D[c]? = some z) : GI D k c = !lt (key z) k.data.toList := by unfold GI; rw [h]
/-- p is where a key stands, or would stand -/
def At (D : List Itm) (k : ByteArray) (p : Nat) : Prop := p ≤ D.length ∧ (∀ y ∈ D.take p, lt (key y) k.data.toList = true) ∧ (∀ y ∈ D.drop p, lt (key y) k.data.toList = false)
def found (D : List Itm) (k : ByteArray) (p : Nat) : Bool := match D[p]? with | some y => decide (key y = k.data.toList) | none => false
theorem at_of {D : List Itm} {k : ByteArray} {p : Nat} (hs : Srt key lt D) (h : Sb.Bs (GI D k) 0 D.length p p) : At D k p := by
  obtain ⟨_, _, h1, h2, h3⟩ := h
  refine ⟨h1, take_ltI hs ?_, drop_geI hs ?_⟩
  · rcases h2 with h2 | h2
    · exact .inl h2
    · rcases Nat.eq_zero_or_pos p with h0 | h0
      · exact .inl h0
      · have hz : D[p - 1]? = some (D[p - 1]'(by omega)) := List.getElem?_eq_getElem _
        rw [GI_at hz] at h2
        exact .inr ⟨_, hz, by simpa using h2⟩
  · rcases h3 with h3 | h3
    · exact .inl h3
    · rcases Nat.lt_or_ge p D.length with h0 | h0
      · have hz : D[p]? = some (D[p]'h0) := List.getElem?_eq_getElem _
        rw [GI_at hz] at h3
        exact .inr ⟨_, hz, by simpa using h3⟩
      · exact .inl (by omega)
end Go.Proofs.YtjkapmghifglcaaDoor.It
/- Contract of package slices' BinarySearchFunc at items, and of package item's place. -/
namespace Go.Proofs.YtjkapmghifglcaaDoor.It
set_option linter.unusedVariables false
open Go.ChangeShapes Go.WideShapes Go.ChangeAt Go.RowKit
open Ar Rg St
theorem placeCmp_at (x : Itm) (k : ByteArray) (c : Int) (hc : icf x k = c) (w : World) :
    Calls Tryd.prog 65 #[.agg #[.string x.k, .string x.v], .string k] w fun e w' => e = .returned (.int .i64 c) ∧ Below w.heap.size w w' := by
  subst hc
  exact placeCmp_any x k w
theorem icf_lt (x : Itm) (k : ByteArray) : icf x k < 0 ↔ lt (key x) k.data.toList = true := By.cmp_lt _ _
theorem icf_eq (x : Itm) (k : ByteArray) : icf x k = 0 ↔ key x = k.data.toList := By.cmp_eq _ _
theorem found_at {D : List Itm} {k : ByteArray} {p : Nat} {y : Itm} (h : D[p]? = some y) : found D k p = decide (key y = k.data.toList) := by unfold found; rw [h]
theorem found_out {D : List Itm} {k : ByteArray} {p : Nat} (h : D.length ≤ p) : found D k p = false := by unfold found; rw [List.getElem?_eq_none h]
set_option maxRecDepth 100000 in
set_option maxHeartbeats 1000000 in
theorem search_any (D : List Itm) (k : ByteArray) (A : Option Addr) (n cap B : Nat) (hn : n = D.length) (hm : n ≤ 281474976710656) (hs : Srt key lt D) (w : World) (hB : B ≤ w.heap.size) (hD : Ls enc 2 w B A D) :
    Calls Tryd.prog 64 #[.slice A n cap, .string k, .func (.func 65) #[] #[]] w fun e w' => ∃ p : Nat, At D k p ∧ e = .returned (.tuple #[.int .i64 p, .bool (found D k p)]) ∧ Below w.heap.size w w' := by
  have HN := Lib.hid hn
  have HD := Lib.hid hD
  have HS := Lib.hid hs
  clear hn hD hs
  go_enter Tryd.func64, Tryd.ntmps64
  go_wp2_with fail
  go_loopw [9, 10] (fun v u wr => ∃ lo hi : Nat, v = .int .i64 lo ∧ u = .int .i64 hi ∧ Hid (Sb.Bs (GI D k) 0 n lo hi) ∧ Hid (Below w.heap.size w wr)) (fun v u _ => (intOf u).toNat - (intOf v).toNat)
  case atStart => exact ⟨0, n, by go_num, by go_num, Sb.Bs.start _ (Nat.zero_le _), Below.refl _ _⟩
  case round =>
    obtain ⟨lo, hi, rfl, rfl, hbs, hbel⟩ := hrel
    obtain ⟨_, n2, n3, _⟩ := Hid.out hbs
    have hL := HD.out.below ((Hid.out hbel).mono hB)
    by_cases hlt : lo < hi
    · obtain ⟨h, hh⟩ : ∃ h : Nat, ((lo : Int) + (hi : Int)) / 2 = (h : Int) := ⟨(lo + hi) / 2, by omega⟩
      have n4 : lo ≤ h := by omega
      have n5 : h < hi := by omega
      have n6 : (0 : Int) ≤ (h : Int) := by omega
      have n7 : (h : Int) < (n : Int) := by omega
      obtain ⟨z, hz⟩ : ∃ z, D[h]? = some z := ⟨_, List.getElem?_eq_getElem (by rw [← HN.out]; omega)⟩
      obtain ⟨b, o, hAe, hb, hr⟩ := hL h z hz
      have hbl : b < wr.heap.size := Nat.lt_of_lt_of_le hb (Nat.le_trans hB (Hid.out hbel).size)
      have hc0 : wr.cell? ⟨b, o + h * 2, none⟩ = some (.string z.k) := hr 0 _ rfl
      have hc1 : wr.cell? ⟨b, o + h * 2 + 1, none⟩ = some (.string z.v) := hr 1 _ rfl
      clear hL hr
      subst hAe
      obtain ⟨c, hcf⟩ : ∃ c, icf z k = c := ⟨_, rfl⟩
      have hcl := icf_lt z k
      rw [hcf] at hcl
      have HCF := Lib.hid hcf
      by_cases hlk : lt (key z) k.data.toList = true
      · have hc : c < 0 := hcl.2 hlk
        have HUP := Lib.hid ((Hid.out hbs).up n4 n5 (by rw [GI_at hz, hlk]; rfl))
        clear hcl hcf hbs hz hlk
        go_wp2_with (go_at_call 65; refine (placeCmp_at z k c HCF.out _).mono ?_; rintro e w1 ⟨rfl, hb1⟩; have HB1 := Lib.hid ((Hid.out hbel).trans (hb1.mono (Hid.out hbel).size)); clear hb1)
        exact ⟨⟨h + 1, hi, by go_num, rfl, HUP.out, HB1.out⟩, by simp [intOf] <;> omega⟩
      · have hc : 0 ≤ c := by
          have : ¬ c < 0 := fun e => hlk (hcl.1 e)
          omega
        have HDN := Lib.hid ((Hid.out hbs).down n4 n5 (by rw [GI_at hz]; simp only [hlk]; rfl))
        clear hcl hcf hbs hz hlk
        go_wp2_with (go_at_call 65; refine (placeCmp_at z k c HCF.out _).mono ?_; rintro e w1 ⟨rfl, hb1⟩; have HB1 := Lib.hid ((Hid.out hbel).trans (hb1.mono (Hid.out hbel).size)); clear hb1)
        exact ⟨⟨lo, h, rfl, rfl, HDN.out, HB1.out⟩, by simp [intOf] <;> omega⟩
    · obtain rfl : lo = hi := by omega
      have HAT := Lib.hid (at_of HS.out (by have := Hid.out hbs; rw [HN.out] at this; exact this))
      clear hbs
      by_cases hp : lo < n
      · obtain ⟨z, hz⟩ : ∃ z, D[lo]? = some z := ⟨_, List.getElem?_eq_getElem (by rw [← HN.out]; omega)⟩
        obtain ⟨b, o, hAe, hb, hr⟩ := hL lo z hz
        have hbl : b < wr.heap.size := Nat.lt_of_lt_of_le hb (Nat.le_trans hB (Hid.out hbel).size)
        have hc0 : wr.cell? ⟨b, o + lo * 2, none⟩ = some (.string z.k) := hr 0 _ rfl
        have hc1 : wr.cell? ⟨b, o + lo * 2 + 1, none⟩ = some (.string z.v) := hr 1 _ rfl
        clear hL hr
        subst hAe
        obtain ⟨c, hcf⟩ : ∃ c, icf z k = c := ⟨_, rfl⟩
        have hce := icf_eq z k
        rw [hcf] at hce
        have HF := Lib.hid (show found D k lo = (c == 0) by rw [found_at hz, Bool.eq_iff_iff]; simp [hce])
        have HCF := Lib.hid hcf
        clear hcf hce hz
        go_wp2_with (go_at_call 65; refine (placeCmp_at z k c HCF.out _).mono ?_; rintro e w1 ⟨rfl, hb1⟩; have HB1 := Lib.hid ((Hid.out hbel).trans (hb1.mono (Hid.out hbel).size)); clear hb1)
        go_ret2
        exact ⟨lo, HAT.out, by rw [HF.out]; rfl, HB1.out⟩
      · have HF := Lib.hid (found_out (D := D) (k := k) (p := lo) (by rw [← HN.out]; omega))
        clear hL
        go_wp2
        go_ret2
        exact ⟨lo, HAT.out, by rw [HF.out]; rfl, Hid.out hbel⟩
theorem place_any (D : List Itm) (k : ByteArray) (A : Option Addr) (n cap B : Nat) (hn : n = D.length) (hm : n ≤ 281474976710656) (hs : Srt key lt D) (w : World) (hB : B ≤ w.heap.size) (hD : Ls enc 2 w B A D) :
    Calls Tryd.prog 49 #[.slice A n cap, .string k] w fun e w' => ∃ p : Nat, At D k p ∧ e = .returned (.tuple #[.int .i64 p, .bool (found D k p)]) ∧ Below w.heap.size w w' := by
  have HC := Lib.hid (search_any D k A n cap B hn hm hs w hB hD)
  clear hn hs hD
  go_enter Tryd.func49, Tryd.ntmps49
  go_wp2_with (go_at_call 64; refine HC.out.mono ?_; rintro e w1 ⟨p, hp, rfl, hb1⟩; have HP := Lib.hid hp; have HB1 := Lib.hid hb1; clear hp hb1)
  go_ret2
  exact ⟨p, HP.out, rfl, HB1.out⟩
end Go.Proofs.YtjkapmghifglcaaDoor.It
/- A right list rises by key; contract of package item's Get. -/
namespace Go.Proofs.YtjkapmghifglcaaDoor.It
set_option linter.unusedVariables false
open Go.ChangeShapes Go.WideShapes Go.ChangeAt Go.RowKit
open Ar Rg St
/-- a list that rises by key, no key twice -/
def Up (D : List Itm) : Prop := D.Pairwise fun a b => lt (key a) (key b) = true
theorem rtFrom_some : ∀ (D : List Itm) (y : Itm), rtFrom (some y) D = true → (∀ x ∈ D, lt (key y) (key x) = true) ∧ Up D ∧ ∀ x ∈ D, okI x = true
  | [], y, _ => ⟨by simp, List.Pairwise.nil, by simp⟩
  | x :: r, y, h => by
    have h' : (okI x && (By.bl (key y) (key x) && rtFrom (some x) r)) = true := h
    rw [Bool.and_eq_true, Bool.and_eq_true] at h'
    obtain ⟨h1, h2, h3⟩ := rtFrom_some r x h'.2.2
    refine ⟨?_, List.pairwise_cons.2 ⟨h1, h2⟩, ?_⟩
    · intro z hz
      rcases List.mem_cons.1 hz with rfl | hz
      · exact h'.2.1
      · exact O.trans _ _ _ h'.2.1 (h1 z hz)
    · intro z hz
      rcases List.mem_cons.1 hz with rfl | hz
      · exact h'.1
      · exact h3 z hz
theorem rt_up {D : List Itm} (h : rt D = true) : Up D ∧ ∀ x ∈ D, okI x = true := by
  cases D with
  | nil => exact ⟨List.Pairwise.nil, by simp⟩
  | cons x r =>
    have h' : (okI x && rtFrom (some x) r) = true := h
    rw [Bool.and_eq_true] at h'
    obtain ⟨h1, h2, h3⟩ := rtFrom_some r x h'.2
    refine ⟨List.pairwise_cons.2 ⟨h1, h2⟩, ?_⟩
    intro z hz
    rcases List.mem_cons.1 hz with rfl | hz
    · exact h'.1
    · exact h3 z hz
theorem Up.srt {D : List Itm} (h : Up D) : Srt key lt D := List.Pairwise.imp (fun hab => O.asymm _ _ hab) h
/-- what a right list has by a key -/
def get (D : List Itm) (k : ByteArray) : Option ByteArray := (D.find? fun x => decide (key x = k.data.toList)).map (·.v)
theorem get_found {D : List Itm} {k : ByteArray} {p : Nat} {y : Itm} (h : At D k p) (hy : D[p]? = some y) (hf : key y = k.data.toList) : get D k = some y.v := by
  obtain ⟨hp, h1, h2⟩ := h
  have e : D = D.take p ++ y :: D.drop (p + 1) := by rw [← drop_at hy, List.take_append_drop]
  unfold get
  rw [e, List.find?_append]
  have hn : (D.take p).find? (fun x => decide (key x = k.data.toList)) = none := by
    rw [List.find?_eq_none]
    intro x hx
    have := O.ne (h1 x hx)
    simpa using this
  rw [hn, Option.none_or, List.find?_cons_of_pos (by simpa using hf)]
  rfl
theorem get_none {D : List Itm} {k : ByteArray} {p : Nat} (hu : Up D) (h : At D k p) (hf : found D k p = false) : get D k = none := by
  obtain ⟨hp, h1, h2⟩ := h
  unfold get
  rw [Option.map_eq_none_iff, List.find?_eq_none]
  intro x hx
  rw [← List.take_append_drop p D] at hx
  rcases List.mem_append.1 hx with hx | hx
  · have := O.ne (h1 x hx)
    simpa using this
  · rcases Nat.lt_or_ge p D.length with hl | hl
    · have hz : D[p]? = some (D[p]'hl) := List.getElem?_eq_getElem _
      rw [found_at hz, decide_eq_false_iff_not] at hf
      have e := drop_at hz
      have hu2 : Up (D.drop p) := List.Pairwise.sublist (List.drop_sublist _ _) hu
      rw [e] at hx hu2
      have hge := h2 D[p] (by rw [e]; exact List.mem_cons_self)
      rcases List.mem_cons.1 hx with rfl | hx
      · simpa using hf
      · have hlt := (List.pairwise_cons.1 hu2).1 x hx
        have hk : lt k.data.toList (key D[p]) = true := by
          cases h3 : lt k.data.toList (key D[p])
          · exact absurd (O.tri _ _ hge h3) hf
          · rfl
        have := O.ne (O.trans _ _ _ hk hlt)
        simp only [decide_eq_true_eq]
        exact fun e => this e.symm
    · rw [List.drop_eq_nil_of_le hl] at hx
      cases hx
def getV (r : Bool) (o : Option ByteArray) : Value :=
  if r then (match o with | some v => .tuple #[.string v, .int .i64 0] | none => .tuple #[.string { data := #[] }, .int .i64 5]) else .tuple #[.string { data := #[] }, .int .i64 4]
set_option maxRecDepth 100000 in
set_option maxHeartbeats 600000 in
theorem get_any (D : List Itm) (k : ByteArray) (A : Option Addr) (n cap B : Nat) (hn : n = D.length) (hm : n ≤ 281474976710656) (w : World) (hB : B ≤ w.heap.size) (hD : Ls enc 2 w B A D) :
    Calls Tryd.prog 31 #[.slice A n cap, .string k] w fun e w' => e = .returned (getV (rt D) (get D k)) ∧ Below w.heap.size w w' := by
  have HR := Lib.hid (rightList_any D A n cap B hn hm w hB hD)
  have HN := Lib.hid hn
  have HD := Lib.hid hD
  clear hn hD
  by_cases hr : rt D = true
  · have HS := Lib.hid (rt_up hr)
    rw [hr] at HR ⊢
    clear hr
    go_enter Tryd.func31, Tryd.ntmps31
    go_wp2_with fail
    go_at_call 48
    refine HR.out.mono ?_
    rintro e w1 ⟨rfl, hb1⟩
    have HB1 := Lib.hid hb1
    clear hb1 HR
    go_wp2_with fail
    go_at_call 49
    refine (place_any D k A n cap B HN.out hm HS.out.1.srt w1 (Nat.le_trans hB HB1.out.size) (HD.out.below (HB1.out.mono hB))).mono ?_
    rintro e w2 ⟨p, hp, rfl, hb2⟩
    have HB2 := Lib.hid (HB1.out.trans (hb2.mono HB1.out.size))
    clear hb2 HB1
    by_cases hf : found D k p = true
    · obtain ⟨y, hy⟩ : ∃ y, D[p]? = some y := by
        unfold found at hf
        cases h : D[p]? with
        | none => rw [h] at hf; cases hf
        | some y => exact ⟨y, rfl⟩
      have hpn : p < n := by rw [HN.out]; exact (List.getElem?_eq_some_iff.1 hy).1
      have hk : key y = k.data.toList := by rw [found_at hy] at hf; simpa using hf
      have HG := Lib.hid (get_found hp hy hk)
      obtain ⟨b, o, hAe, hb, hrr⟩ := (HD.out.below (HB2.out.mono hB)) p y hy
      have hc1 : w2.cell? ⟨b, o + p * 2 + 1, none⟩ = some (.string y.v) := hrr 1 _ rfl
      clear hrr hp hy hk
      subst hAe
      rw [hf]
      clear hf
      go_wp2
      go_ret2
      exact ⟨by rw [HG.out]; rfl, HB2.out⟩
    · have hf : found D k p = false := by simpa using hf
      have HG := Lib.hid (get_none HS.out.1 hp hf)
      rw [hf]
      clear hf hp
      go_wp2
      go_ret2
      exact ⟨by rw [HG.out]; rfl, HB2.out⟩
  · have hr : rt D = false := by simpa using hr
    rw [hr] at HR ⊢
    clear hr
    go_enter Tryd.func31, Tryd.ntmps31
    go_wp2_with fail
    go_at_call 48
    refine HR.out.mono ?_
    rintro e w1 ⟨rfl, hb1⟩
    have HB1 := Lib.hid hb1
    clear hb1 HR
    go_wp2
    go_ret2
    exact ⟨rfl, HB1.out⟩
end Go.Proofs.YtjkapmghifglcaaDoor.It
