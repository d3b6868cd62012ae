/- Contracts of package strings' HasPrefix and of package item's Under. -/
import Derived.Test.YtcnggidihkcndaaGreatDoorItO
namespace Go.Proofs.YtcnggidihkcndaaGreatDoor.It
set_option linter.unusedVariables false
set_option maxRecDepth 100000
open Go.ChangeShapes Go.WideShapes Go.ChangeAt Go.RowKit
open Ar Rg St
open BigFrame
theorem up_srt {D : List Itm} (h : UpK key D) : Srt key lt D := Up.srt h
theorem pre_take : ∀ p s : List UInt8, p.isPrefixOf s = (decide (p.length ≤ s.length) && decide (s.take p.length = p))
  | [], s => by simp
  | x :: p, [] => by simp
  | x :: p, y :: s => by
    show (x == y && p.isPrefixOf s) = _
    rw [pre_take p s]
    by_cases h : x = y
    · subst h
      simp
    · have h2 : ¬ y = x := fun e => h e.symm
      simp [h, h2]
def pfx (p s : ByteArray) : Bool := p.data.toList.isPrefixOf s.data.toList
theorem litePrefix_any (s p : ByteArray) (hs : s.size ≤ 9223372036854775807) (hp : p.size ≤ 9223372036854775807) (w : World) :
    Calls Tryz.prog 49 #[.string s, .string p] w fun e w' => e = .returned (.bool (pfx p s)) ∧ w = w' := by
  have hl : s.data.toList.length = s.size := by simp
  have hl2 : p.data.toList.length = p.size := by simp
  obtain ⟨q, hq⟩ : ∃ q, pfx p s = q := ⟨_, rfl⟩
  rw [hq]
  rw [pfx, pre_take, hl, hl2] at hq
  by_cases h : p.size ≤ s.size
  · have h1 : decide ((p.size : Int) ≤ (s.size : Int)) = true := by rw [decide_eq_true_iff]; omega
    have he : ((s.extract 0 p.size).toList == p.toList) = q := by
      rw [← hq, decide_eq_true h, Bool.true_and, str_eq]
      refine decide_eq_decide.2 ?_
      rw [ByteArray.data_extract]
      simp
    clear hq hl hl2
    go_enter Tryz.func49, Tryz.ntmps49
    go_wp2
    go_ret
    exact ⟨rfl, rfl⟩
  · have h1 : decide ((p.size : Int) ≤ (s.size : Int)) = false := by rw [decide_eq_false_iff_not]; omega
    have hq' : q = false := by rw [← hq, decide_eq_false h]; rfl
    subst hq'
    clear hq hl hl2
    go_enter Tryz.func49, Tryz.ntmps49
    go_wp2
    go_ret
    exact ⟨rfl, rfl⟩
theorem hasPrefix_any (s p : ByteArray) (hs : s.size ≤ 9223372036854775807) (hp : p.size ≤ 9223372036854775807) (w : World) :
    Calls Tryz.prog 36 #[.string s, .string p] w fun e w' => e = .returned (.bool (pfx p s)) ∧ w = w' := by
  have HC := Lib.hid (litePrefix_any s p hs hp w)
  go_enter Tryz.func36, Tryz.ntmps36
  go_wp2_with (go_at_call 49; refine HC.out.mono ?_; rintro e w' ⟨rfl, rfl⟩)
  go_ret
  exact ⟨rfl, rfl⟩
/-- how far what is under the prefix goes -/
def AtU (D : List Itm) (p : ByteArray) (i e : Nat) : Prop := i ≤ e ∧ ∀ x ∈ (D.drop i).take (e - i), pre p x = true
theorem AtU.more {D : List Itm} {p : ByteArray} {i e : Nat} {x : Itm} (h : AtU D p i e) (hx : D[e]? = some x) (hp : pre p x = true) : AtU D p i (e + 1) := by
  obtain ⟨h1, h2⟩ := h
  refine ⟨by omega, fun y hy => ?_⟩
  rw [show e + 1 - i = (e - i) + 1 by omega, List.take_add_one] at hy
  rcases List.mem_append.1 hy with hy | hy
  · exact h2 y hy
  · rw [List.getElem?_drop, show i + (e - i) = e by omega, hx] at hy
    simp at hy; subst hy; exact hp
theorem takeWhile_of {α : Type} (p : α → Bool) : ∀ (l : List α) (k : Nat), (∀ x ∈ l.take k, p x = true) → (l.length ≤ k ∨ ∃ y, l[k]? = some y ∧ p y = false) → l.takeWhile p = l.take k
  | [], k, _, _ => by simp
  | x :: l, 0, _, h => by
    rcases h with h | ⟨y, h1, h2⟩
    · simp at h
    · simp at h1; subst h1
      rw [List.takeWhile_cons_of_neg (by simp [h2])]; rfl
  | x :: l, k + 1, h, h' => by
    have hx : p x = true := h x (by rw [List.take_succ_cons]; exact List.mem_cons_self)
    rw [List.takeWhile_cons_of_pos hx, List.take_succ_cons, takeWhile_of p l k (fun y hy => h y (by rw [List.take_succ_cons]; exact List.mem_cons_of_mem _ hy)) (by
      rcases h' with h' | ⟨y, h1, h2⟩
      · left; simpa using h'
      · right; exact ⟨y, by simpa using h1, h2⟩)]
theorem AtU.done {D : List Itm} {p : ByteArray} {i e : Nat} (hD : UpK key D) (hp : At D p i) (h : AtU D p i e) (hx : D.length ≤ e ∨ ∃ y, D[e]? = some y ∧ pre p y = false) : (D.drop i).take (e - i) = und D p := by
  rw [und_piece hD hp]
  refine (takeWhile_of _ _ _ h.2 ?_).symm
  have := h.1
  rcases hx with hx | ⟨y, h1, h2⟩
  · left; rw [List.length_drop]; omega
  · right; exact ⟨y, by rw [List.getElem?_drop, show i + (e - i) = e by omega]; exact h1, h2⟩
def er (b : Bool) : Int := if b then 0 else 4
theorem okI_sizes {D : List Itm} (h : rt D = true) {i : Nat} {x : Itm} (hx : D[i]? = some x) : x.k.size ≤ 48 ∧ x.v.size ≤ 160 := by
  have := (rt_iff.1 h).2 x (List.mem_of_getElem? hx)
  simp only [okI, okKey, Bool.and_eq_true, decide_eq_true_iff] at this
  exact ⟨this.1.2, this.2⟩
set_option maxRecDepth 100000 in
set_option maxHeartbeats 1000000 in
theorem under_any (D : List Itm) (p : ByteArray) (hps : p.size ≤ 9223372036854775807) (A : Option Addr) (n c B : Nat) (hn : n = D.length) (hc : n ≤ c) (hcm : c ≤ maxLen) (hlen : n ≤ 4398046511104) (w : World) (hB : B ≤ w.heap.size) (hD : Ls enc 2 w B A D) :
    Calls Tryz.prog 22 #[.slice A n c, .string p] w fun e w' => ∃ v, e = .returned (.tuple #[v, .int .i64 (er (rt D))]) ∧ MkI w w' v (if rt D then und D p else []) := by
  unfold maxLen at hcm
  have HN := Lib.hid hn
  have HD := Lib.hid hD
  have HC := Lib.hid (rightList_any D A n c B hn (by omega) w hB hD)
  clear hn hD
  cases hrt : rt D
  · rw [hrt] at HC
    go_enter Tryz.func22, Tryz.ntmps22
    go_wp2_with (go_at_call 16; refine HC.out.mono ?_; rintro e w1 ⟨rfl, hb1⟩; have HB1 := Lib.hid hb1; clear hb1)
    go_ret2
    exact ⟨_, rfl, Mk.nil HB1.out⟩
  · have HR := Lib.hid hrt
    rw [hrt] at HC
    clear hrt
    go_enter Tryz.func22, Tryz.ntmps22
    go_wp2_with fail
    go_at_call 16
    refine HC.out.mono ?_
    rintro e w1 ⟨rfl, hb1⟩
    have HB1 := Lib.hid hb1
    clear hb1 HC
    go_wp2_with fail
    go_at_call 31
    refine (place_any D p A n c B HN.out (by omega) (up_srt (rt_iff.1 HR.out).1) w1 (Nat.le_trans hB HB1.out.size) (HD.out.below (HB1.out.mono hB))).mono ?_
    rintro e w2 ⟨f, hf, rfl, hb2⟩
    have hfn : f ≤ n := by rw [HN.out]; exact hf.1
    have HF := Lib.hid hf
    have HB2 := Lib.hid (HB1.out.trans (hb2.mono HB1.out.size))
    clear hb2 HB1 hf
    obtain ⟨A1, hif⟩ : ∃ A1, (if c = f then A else Option.map (fun x => x.add (f * 2)) A) = A1 := ⟨_, rfl⟩
    have HL1 := Lib.hid (show Ls enc 2 w B A1 (D.drop f) from hif ▸ HD.out.drop HN.out hc hfn)
    go_wp2_with fail
    go_loopw [8] (fun v wr => ∃ e : Nat, f ≤ e ∧ e ≤ n ∧ v = .int .i64 e ∧ Hid (AtU D p f e) ∧ Hid (Below w.heap.size w wr)) (fun v _ => n - (intOf v).toNat)
    case atStart => exact ⟨f, Nat.le_refl _, hfn, by go_num, ⟨Nat.le_refl _, by simp⟩, HB2.out⟩
    case round =>
      obtain ⟨e, hfe, hen, rfl, hat, hbel⟩ := hrel
      by_cases hlt : e < n
      · obtain ⟨x, hx⟩ : ∃ x, D[e]? = some x := ⟨_, List.getElem?_eq_getElem (by rw [← HN.out]; exact hlt)⟩
        obtain ⟨b, o, hAe, hb, hr⟩ := (HD.out.below ((Hid.out hbel).mono hB)) e x hx
        have hbs : b < wr.heap.size := Nat.lt_of_lt_of_le hb (Nat.le_trans hB (Hid.out hbel).size)
        have hc0 : wr.cell? ⟨b, o + e * 2, none⟩ = some (.string x.k) := hr 0 _ rfl
        clear hr
        subst hAe
        obtain ⟨q, hq⟩ : ∃ q, pfx p x.k = q := ⟨_, rfl⟩
        have hqc := hasPrefix_any x.k p (by have := (okI_sizes HR.out hx).1; omega) hps
        rw [hq] at hqc
        have HQC := Lib.hid hqc
        clear hqc
        cases q
        · have HU := Lib.hid (show (D.drop f).take (e - f) = und D p from (Hid.out hat).done (rt_iff.1 HR.out).1 HF.out (.inr ⟨x, hx, hq⟩))
          have hA1 : A1 = some ⟨b, o + f * 2, none⟩ := by rw [← hif, if_neg (by omega), Option.map_some, Ar.add_plain]
          clear hif
          subst hA1
          clear hat hx hq
          have HLL := Lib.hid (show e - f = ((D.drop f).take (e - f)).length by rw [List.length_take, List.length_drop, ← HN.out]; omega)
          go_wp2_with (first
            | (go_at_call 36; refine (HQC.out _).mono ?_; rintro e w3 ⟨rfl, rfl⟩)
            | (at_builtin; refine catI (Mk.nil (Hid.out hbel)) ((D.drop f).take (e - f)) _ (e - f) _ HLL.out ((HL1.out.take (e - f)).below ((Hid.out hbel).mono hB)) (by simp; omega) rfl _ _ rfl rfl rfl ?_; intro v3 w3 hM3 hG3; have HM3 := Lib.hid hM3; clear hM3 hG3))
          go_ret2
          refine ⟨_, rfl, ?_⟩
          have := HM3.out
          rw [List.nil_append, HU.out] at this
          exact this
        · have HA := Lib.hid ((Hid.out hat).more hx hq)
          clear hat hx hq
          go_wp2_with (go_at_call 36; refine (HQC.out _).mono ?_; rintro e w3 ⟨rfl, rfl⟩)
          exact ⟨⟨e + 1, by omega, by omega, by go_num, HA.out, Hid.out hbel⟩, by simp [intOf] <;> omega⟩
      · have HU := Lib.hid (show (D.drop f).take (e - f) = und D p from (Hid.out hat).done (rt_iff.1 HR.out).1 HF.out (.inl (by rw [← HN.out]; omega)))
        have HLL := Lib.hid (show e - f = ((D.drop f).take (e - f)).length by rw [List.length_take, List.length_drop, ← HN.out]; omega)
        clear hat
        go_wp2_with (at_builtin; refine catI (Mk.nil (Hid.out hbel)) ((D.drop f).take (e - f)) _ (e - f) _ HLL.out ((HL1.out.take (e - f)).below ((Hid.out hbel).mono hB)) (by simp; omega) rfl _ _ rfl rfl rfl ?_; intro v3 w3 hM3 hG3; have HM3 := Lib.hid hM3; clear hM3 hG3)
        go_ret2
        refine ⟨_, rfl, ?_⟩
        have := HM3.out
        rw [List.nil_append, HU.out] at this
        exact this
end Go.Proofs.YtcnggidihkcndaaGreatDoor.It
