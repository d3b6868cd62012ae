/- Plain mathematics of data's changes: what a chunk has behind them, byte by byte. No walk here. -/
import Derived.Test.YtcnggidihkcndaaGreatDoorGa
namespace Go.Proofs.YtcnggidihkcndaaGreatDoor.Da
set_option linter.unusedVariables false
set_option linter.unusedSimpArgs false
open It (Itm Ch ckey key get app lastV get_app get_iff rt rt_iff rc UpK)
open Tm (cutL cutB cutL_snoc)
/-- a byte of a list; zero behind it -/
def zb (l : List UInt8) (j : Nat) : UInt8 := (l[j]?).getD 0
theorem cutL_split : ∀ r : List UInt8, ∃ m, r.reverse = cutL r.reverse ++ List.replicate m 0
  | [] => ⟨0, rfl⟩
  | b :: r => by
    rw [List.reverse_cons, cutL_snoc]
    by_cases h : b = 0
    · obtain ⟨m, e⟩ := cutL_split r
      refine ⟨m + 1, ?_⟩
      rw [if_pos h, h, List.replicate_succ', ← List.append_assoc, ← e]
    · exact ⟨0, by rw [if_neg h]; simp⟩
theorem cutL_end : ∀ r : List UInt8, (cutL r.reverse).getLast? ≠ some 0
  | [] => by decide
  | b :: r => by
    rw [List.reverse_cons, cutL_snoc]
    by_cases h : b = 0
    · rw [if_pos h]; exact cutL_end r
    · rw [if_neg h]; simpa using h
theorem cut_split (l : List UInt8) : ∃ m, l = cutL l ++ List.replicate m 0 := by have := cutL_split l.reverse; rwa [List.reverse_reverse] at this
theorem cut_end (l : List UInt8) : (cutL l).getLast? ≠ some 0 := by have := cutL_end l.reverse; rwa [List.reverse_reverse] at this
theorem cut_len (l : List UInt8) : (cutL l).length ≤ l.length := by
  obtain ⟨m, e⟩ := cut_split l
  have := congrArg List.length e
  rw [List.length_append] at this
  omega
theorem zb_out {l : List UInt8} {j : Nat} (h : l.length ≤ j) : zb l j = 0 := by unfold zb; rw [List.getElem?_eq_none h]; rfl
theorem zb_cut (l : List UInt8) (j : Nat) : zb (cutL l) j = zb l j := by
  obtain ⟨m, e⟩ := cut_split l
  have e2 : zb l j = zb (cutL l ++ List.replicate m 0) j := congrArg (fun x => zb x j) e
  rw [e2]
  unfold zb
  by_cases h : j < (cutL l).length
  · rw [List.getElem?_append_left h]
  · rw [List.getElem?_eq_none (by omega), List.getElem?_append_right (by omega), List.getElem?_replicate]
    split <;> rfl
theorem last_zb {l : List UInt8} (h : l.getLast? ≠ some 0) (h0 : 0 < l.length) : zb l (l.length - 1) ≠ 0 := by
  unfold zb
  rw [← List.getLast?_eq_getElem?]
  cases e : l.getLast? with
  | none => rw [List.getLast?_eq_none_iff] at e; rw [e] at h0; cases h0
  | some b => intro hb; rw [e] at h; exact h (by rw [show b = 0 from hb])
theorem zb_ext {u v : List UInt8} (hu : u.getLast? ≠ some 0) (hv : v.getLast? ≠ some 0) (h : ∀ j, zb u j = zb v j) : u = v := by
  have hl : u.length = v.length := by
    rcases Nat.lt_trichotomy u.length v.length with hlt | he | hlt
    · have := last_zb hv (by omega)
      rw [← h, zb_out (by omega)] at this
      exact absurd rfl this
    · exact he
    · have := last_zb hu (by omega)
      rw [h, zb_out (by omega)] at this
      exact absurd rfl this
  apply List.ext_getElem?
  intro j
  by_cases hj : j < u.length
  · have := h j
    unfold zb at this
    rw [List.getElem?_eq_getElem hj, List.getElem?_eq_getElem (by omega)] at this ⊢
    exact congrArg some this
  · rw [List.getElem?_eq_none (by omega), List.getElem?_eq_none (by omega)]
theorem bsl (s : ByteArray) : s.data.toList.length = s.size := by rw [Array.length_toList]; rfl
/-- what a change leaves of its key -/
def ov (c : Ch) : Option ByteArray := if c.h then some c.v else none
/-- a byte of what is kept -/
def bo (o : Option ByteArray) (j : Nat) : UInt8 := match o with
  | some v => zb v.data.toList j
  | none => 0
/-- as a Write leaves it -/
def CnO (o : Option ByteArray) : Prop := ∀ v, o = some v → v.size ≤ 128 ∧ 0 < v.size ∧ v.data.toList.getLast? ≠ some 0
theorem cnO_ext {o o' : Option ByteArray} (h : CnO o) (h' : CnO o') (hb : ∀ j, j < 128 → bo o j = bo o' j) : o = o' := by
  cases o with
  | none =>
    cases o' with
    | none => rfl
    | some v =>
      obtain ⟨h1, h2, h3⟩ := h' v rfl
      have h4 := last_zb h3 (by rw [bsl]; exact h2)
      rw [bsl] at h4
      have := hb (v.size - 1) (by omega)
      exact absurd this.symm h4
  | some u =>
    obtain ⟨g1, g2, g3⟩ := h u rfl
    cases o' with
    | none =>
      have h4 := last_zb g3 (by rw [bsl]; exact g2)
      rw [bsl] at h4
      exact absurd (hb (u.size - 1) (by omega)) h4
    | some v =>
      obtain ⟨h1, h2, h3⟩ := h' v rfl
      have : u.data.toList = v.data.toList := zb_ext g3 h3 fun j => by
        by_cases hj : j < 128
        · exact hb j hj
        · rw [zb_out (by rw [bsl]; omega), zb_out (by rw [bsl]; omega)]
      rw [ByteArray.ext (Array.toList_inj.1 this)]
theorem cutB_list (x : ByteArray) : (cutB x).data.toList = cutL x.data.toList := rfl
theorem bo_kp (k x : ByteArray) (j : Nat) : bo (ov (kpC k x)) j = zb x.data.toList j := by
  unfold ov kpC
  dsimp only
  by_cases h : 0 < (cutB x).size
  · rw [if_pos (decide_eq_true h)]
    exact zb_cut _ _
  · rw [if_neg (by simpa using h)]
    show (0 : UInt8) = _
    rw [← zb_cut, zb_out]
    have := bsl (cutB x)
    rw [cutB_list] at this
    omega
theorem cn_kp (k x : ByteArray) (h : x.size ≤ 128) : CnO (ov (kpC k x)) := by
  intro v hv
  unfold ov kpC at hv
  dsimp only at hv
  split at hv
  · rename_i h0
    cases hv
    refine ⟨?_, of_decide_eq_true h0, cut_end _⟩
    have h1 := bsl (cutB x)
    have h2 := bsl x
    have h3 := cut_len x.data.toList
    rw [cutB_list] at h1
    omega
  · cases hv
theorem zb_laid (t : List UInt8) (a : Nat) (b : List UInt8) (j : Nat) : zb (laidL t a b) j = if a ≤ j ∧ j < a + b.length then zb b (j - a) else zb t j := by
  unfold zb laidL
  have h1 : (cpy (List.replicate (max t.length (a + b.length)) 0) 0 (max t.length (a + b.length)) t).length = max t.length (a + b.length) := by
    rw [cpy_len (by rw [List.length_replicate]; omega), List.length_replicate]
  rw [cpy_get (by rw [h1]; omega)]
  by_cases h : a ≤ j ∧ j < a + b.length
  · rw [if_pos (by omega), if_pos h]
  · rw [if_neg (by omega), if_neg h, cpy_get (by rw [List.length_replicate]; omega)]
    by_cases h2 : j < t.length
    · rw [if_pos (by omega), Nat.sub_zero]
    · rw [if_neg (by omega), List.getElem?_replicate, List.getElem?_eq_none (by omega)]
      split <;> rfl
theorem zb_bts (c : Ck) {j : Nat} (hj : j < 128) : zb (btsB c).data.toList j = zb c.v.data.toList j := by
  unfold zb
  rw [btsB_list, List.getElem?_take, if_pos hj]
theorem bo_nw (c : Ck) (q : Nat) (part : List UInt8) {j : Nat} (hj : j < 128) : bo (ov (nwC c q part)) j = if q ≤ j ∧ j < q + part.length then zb part (j - q) else zb c.v.data.toList j := by
  unfold nwC
  rw [bo_kp]
  show zb (laidL _ _ _) j = _
  rw [zb_laid, zb_bts c hj]
theorem cn_nw (c : Ck) (q : Nat) (part : List UInt8) (h : q + part.length ≤ 128) : CnO (ov (nwC c q part)) := by
  unfold nwC
  refine cn_kp _ _ ?_
  show (laidL _ _ _).toArray.size ≤ 128
  rw [List.size_toArray, laidL_len]
  have := bts_le c
  omega
/-- the chunk of a number is what is kept by its key -/
theorem fnd_get {D : List Itm} {I k : Nat} (hr : rt D = true) (hI : 1 ≤ I) (hI2 : I < 4294967296) (hk : k < 512) :
    (fnd (chs D I) I k).k = cky I k ∧ ov (akC (fnd (chs D I) I k)) = get D (cky I k) ∧ ∀ j, zb (fnd (chs D I) I k).v.data.toList j = bo (get D (cky I k)) j := by
  have hu := chs_up hr hI hI2
  have hD := (rt_iff.1 hr).1
  cases hg : get D (cky I k) with
  | some v =>
    have hm : (⟨k, cky I k, true, v⟩ : Ck) ∈ chs D I := (mem_chs hI hI2 _).2 ⟨k, v, hk, (get_iff hD _ _).1 hg, rfl⟩
    obtain ⟨p, hp⟩ := List.mem_iff_getElem?.1 hm
    rw [fnd_yes hu hp rfl]
    exact ⟨rfl, rfl, fun j => rfl⟩
  | none =>
    rw [fnd_no (fun c hc e => by
      obtain ⟨k', v, hk', hm, rfl⟩ := (mem_chs hI hI2 c).1 hc
      have e : k' = k := e
      subst e
      rw [(get_iff hD _ _).2 hm] at hg
      cases hg)]
    exact ⟨rfl, rfl, fun j => by rw [zb_out (Nat.zero_le _)]; rfl⟩
theorem lastV_app (K : ByteArray) : ∀ (A B : List Ch) (o : Option ByteArray), lastV K o (A ++ B) = lastV K (lastV K o A) B
  | [], _, _ => rfl
  | c :: A, B, o => by rw [List.cons_append, lastV, lastV, lastV_app K A B]
/-- the chunks that a Write meets -/
def Tch (p L k : Nat) : Prop := 0 < L ∧ p / 128 ≤ k ∧ k * 128 < p + L
theorem ba_list {a b : ByteArray} : a.data.toList = b.data.toList ↔ a = b := ⟨fun h => ByteArray.ext (Array.toList_inj.1 h), fun h => by rw [h]⟩
/-- what a Write leaves: of keys that it does not meet, what was there; of those that it meets, its bytes, and the others as they were -/
theorem wr_last {D : List Itm} {I : Nat} (hr : rt D = true) (hI : 1 ≤ I) (hI2 : I < 4294967296) : ∀ (N : Nat) (b : List UInt8) (p : Nat), b.length ≤ N → p + b.length ≤ 65536 →
    (∀ K o, (∀ k, Tch p b.length k → K ≠ cky I k) → lastV K o (wrL (chs D I) I p b) = o) ∧
    ∀ k, Tch p b.length k → CnO (lastV (cky I k) (get D (cky I k)) (wrL (chs D I) I p b)) ∧
      ∀ j, j < 128 → bo (lastV (cky I k) (get D (cky I k)) (wrL (chs D I) I p b)) j = if p ≤ k * 128 + j ∧ k * 128 + j < p + b.length then zb b (k * 128 + j - p) else bo (get D (cky I k)) j := by
  intro N
  induction N with
  | zero =>
    intro b p hb _
    have : b = [] := List.eq_nil_of_length_eq_zero (by omega)
    subst this
    rw [wrL_nil]
    exact ⟨fun _ _ _ => rfl, fun k hk => by have := hk.1; simp at this⟩
  | succ N ih =>
    intro b p hb hp
    by_cases hbe : b = []
    · subst hbe
      rw [wrL_nil]
      exact ⟨fun _ _ _ => rfl, fun k hk => by have := hk.1; simp at this⟩
    have hb0 : 0 < b.length := List.length_pos_iff.2 hbe
    obtain ⟨k0, hk0⟩ : ∃ k, p / 128 = k := ⟨_, rfl⟩
    obtain ⟨q, hq⟩ : ∃ q, p % 128 = q := ⟨_, rfl⟩
    obtain ⟨n, hn⟩ : ∃ n, min b.length (128 - q) = n := ⟨_, rfl⟩
    obtain ⟨c, hc⟩ : ∃ c, fnd (chs D I) I k0 = c := ⟨_, rfl⟩
    have hk9 : k0 < 512 := by omega
    obtain ⟨f1, f2, f3⟩ := fnd_get hr hI hI2 hk9
    rw [hc] at f1 f2 f3
    rw [wrL_go (c := c) (q := q) (n := n) hbe (by rw [hk0]; exact hc) hq hn]
    obtain ⟨i1, i2⟩ := ih (b.drop n) (p + n) (by rw [List.length_drop]; omega) (by rw [List.length_drop]; omega)
    have hdl : (b.drop n).length = b.length - n := List.length_drop
    have htl : (b.take n).length = n := by rw [List.length_take]; omega
    -- the first chunk's change
    have first : ∀ K o, lastV K o (if eqH (nwC c q (b.take n)) (akC c) then [] else [nwC c q (b.take n)]) = if K = cky I k0 then (if eqH (nwC c q (b.take n)) (akC c) then o else ov (nwC c q (b.take n))) else o := by
      intro K o
      by_cases he : eqH (nwC c q (b.take n)) (akC c) = true
      · rw [if_pos he, if_pos he]
        show o = _
        split <;> rfl
      · rw [if_neg he, if_neg he]
        show (if ckey (nwC c q (b.take n)) = K.data.toList then ov (nwC c q (b.take n)) else o) = _
        have : ckey (nwC c q (b.take n)) = K.data.toList ↔ K = cky I k0 := by
          show c.k.data.toList = _ ↔ _
          rw [f1, ba_list]
          exact ⟨fun h => h.symm, fun h => h.symm⟩
        by_cases hk : K = cky I k0
        · rw [if_pos (this.2 hk), if_pos hk]
        · rw [if_neg (fun h => hk (this.1 h)), if_neg hk]
    -- the chunks of the rest
    have rest : ∀ k, Tch (p + n) (b.drop n).length k ↔ Tch p b.length k ∧ k ≠ k0 := by
      intro k
      unfold Tch
      rw [hdl]
      constructor
      · rintro ⟨h1, h2, h3⟩
        have : n = 128 - q := by omega
        exact ⟨⟨hb0, by omega, by omega⟩, by omega⟩
      · rintro ⟨⟨h1, h2, h3⟩, h4⟩
        exact ⟨by omega, by omega, by omega⟩
    refine ⟨fun K o hK => ?_, fun k hk => ?_⟩
    · rw [lastV_app, first, if_neg (hK k0 ⟨hb0, by omega, by omega⟩)]
      exact i1 K o fun k h => hK k ((rest k).1 h).1
    · have hkl : k < 512 := by have := hk.2.2; omega
      rw [lastV_app, first]
      by_cases hkk : k = k0
      · subst hkk
        rw [if_pos rfl]
        have e1 : (if eqH (nwC c q (b.take n)) (akC c) then get D (cky I k) else ov (nwC c q (b.take n))) = ov (nwC c q (b.take n)) := by
          by_cases he : eqH (nwC c q (b.take n)) (akC c) = true
          · rw [if_pos he, ← f2, eqH_iff.1 he]
          · rw [if_neg he]
        rw [e1, i1 _ _ (fun k' h e => by
          obtain ⟨h1, h2⟩ := (rest k').1 h
          have hk' : k' < 512 := by have := h1.2.2; omega
          exact h2 (cky_inj hI hI2 hI hI2 hkl hk' e).2.symm)]
        refine ⟨cn_nw _ _ _ (by rw [htl]; omega), fun j hj => ?_⟩
        rw [bo_nw c q _ hj, htl, f3]
        by_cases hin : q ≤ j ∧ j < q + n
        · rw [if_pos hin, if_pos (by omega)]
          unfold zb
          rw [List.getElem?_take, if_pos (by omega), show k * 128 + j - p = j - q by omega]
        · rw [if_neg hin, if_neg (by omega)]
      · rw [if_neg (fun e => hkk (cky_inj hI hI2 hI hI2 hkl hk9 e).2)]
        obtain ⟨g1, g2⟩ := i2 k ((rest k).2 ⟨hk, hkk⟩)
        have hr2 := ((rest k).2 ⟨hk, hkk⟩)
        have hr3 := hr2.1
        have hr4 := hr2.2.1
        rw [hdl] at hr3
        refine ⟨g1, fun j hj => ?_⟩
        rw [g2 j hj, hdl]
        have e1 : (p + n ≤ k * 128 + j ∧ k * 128 + j < p + n + (b.length - n)) ↔ (p ≤ k * 128 + j ∧ k * 128 + j < p + b.length) := by omega
        by_cases hin : p ≤ k * 128 + j ∧ k * 128 + j < p + b.length
        · rw [if_pos (e1.2 hin), if_pos hin]
          unfold zb
          rw [List.getElem?_drop, show n + (k * 128 + j - (p + n)) = k * 128 + j - p by omega]
        · rw [if_neg (fun h => hin (e1.1 h)), if_neg hin]
end Go.Proofs.YtcnggidihkcndaaGreatDoor.Da
/- Plain mathematics of data's changes: what is read behind a Write; a Write again. No walk here. -/
namespace Go.Proofs.YtcnggidihkcndaaGreatDoor.Da
set_option linter.unusedVariables false
set_option linter.unusedSimpArgs false
open It (Itm Ch ckey key get app lastV get_app get_iff rt rt_iff rc rc_iff UpK okC okI okKey rt_app up_app)
open Tm (cutL cutB cutL_snoc)
theorem cky_ok {I k : Nat} (hI : 1 ≤ I) (hk : k < 512) : okKey (cky I k) = true := by
  obtain ⟨_, _, h1, h2⟩ := Ino.wrK_pfx (kyC_ok hI hk)
  simp only [okKey, Bool.and_eq_true, decide_eq_true_eq]
  show _ ∧ (Ino.wrK (kyC I k)).size ≤ 48
  refine ⟨?_, by omega⟩
  show (Ino.wrK (kyC I k)).size ≠ 0
  omega
theorem okC_kp {k x : ByteArray} (hk : okKey k = true) (hx : x.size ≤ 160) : okC (kpC k x) = true := by
  have h1 := bsl (cutB x)
  have h2 := bsl x
  have h3 := cut_len x.data.toList
  rw [cutB_list] at h1
  have hs : (cutB x).size ≤ 160 := by omega
  unfold okC kpC
  dsimp only
  rw [hk, decide_eq_true hs]
  by_cases h : 0 < (cutB x).size
  · rw [decide_eq_true h]; rfl
  · rw [decide_eq_false h]
    have : (cutB x).toList = [] := se3 (by omega)
    rw [this]; rfl
theorem wr_ok {D : List Itm} {I : Nat} (hr : rt D = true) (hI : 1 ≤ I) (hI2 : I < 4294967296) : ∀ (N : Nat) (b : List UInt8) (p : Nat), b.length ≤ N → p + b.length ≤ 65536 → ∀ x ∈ wrL (chs D I) I p b, okC x = true := by
  intro N
  induction N with
  | zero =>
    intro b p hb _ x hx
    have : b = [] := List.eq_nil_of_length_eq_zero (by omega)
    subst this
    rw [wrL_nil] at hx
    cases hx
  | succ N ih =>
    intro b p hb hp x hx
    by_cases hbe : b = []
    · subst hbe
      rw [wrL_nil] at hx
      cases hx
    have hb0 : 0 < b.length := List.length_pos_iff.2 hbe
    obtain ⟨n, hn⟩ : ∃ n, min b.length (128 - p % 128) = n := ⟨_, rfl⟩
    have hk9 : p / 128 < 512 := by omega
    obtain ⟨f1, _, _⟩ := fnd_get hr hI hI2 hk9
    rw [wrL_go hbe rfl rfl hn] at hx
    rcases List.mem_append.1 hx with hx | hx
    · split at hx
      · cases hx
      · have hx := List.mem_singleton.1 hx
        subst hx
        unfold nwC
        refine okC_kp (by rw [f1]; exact cky_ok hI hk9) ?_
        show (laidL _ _ _).toArray.size ≤ 160
        rw [List.size_toArray, laidL_len, List.length_take]
        have := bts_le (fnd (chs D I) I (p / 128))
        omega
    · exact ih (b.drop n) (p + n) (by rw [List.length_drop]; omega) (by rw [List.length_drop]; omega) x hx
/-- a byte that is read is one that is kept -/
theorem btC_get {D : List Itm} {I : Nat} (hr : rt D = true) (hI : 1 ≤ I) (hI2 : I < 4294967296) {p : Nat} (hp : p < 65536) : btC (chs D I) p = bo (get D (cky I (p / 128))) (p % 128) := by
  have h3 := (fnd_get hr hI hI2 (show p / 128 < 512 by omega)).2.2 (p % 128)
  rw [← h3]
  unfold btC fnd
  cases hf : (chs D I).find? fun c => decide (c.n = p / 128) with
  | none => exact (zb_out (Nat.zero_le _)).symm
  | some c => exact zb_bts c (by omega)
theorem fnd_off {D : List Itm} {I k : Nat} (hI : 1 ≤ I) (hI2 : I < 4294967296) (h : (fnd (chs D I) I k).h = false) : (fnd (chs D I) I k).v = ByteArray.empty := by
  unfold fnd at h ⊢
  cases hf : (chs D I).find? fun c => decide (c.n = k) with
  | none => rfl
  | some c =>
    rw [hf] at h
    obtain ⟨k', v, _, _, rfl⟩ := (mem_chs hI hI2 c).1 (List.mem_of_find?_eq_some hf)
    cases h
section
variable {D : List Itm} {I p : Nat} {b : List UInt8}
/-- what is there behind a Write -/
def wrD (D : List Itm) (I p : Nat) (b : List UInt8) : List Itm := app D (wrL (chs D I) I p b)
theorem wrD_rt (hr : rt D = true) (hI : 1 ≤ I) (hI2 : I < 4294967296) (hp : p + b.length ≤ 65536) : rc (wrL (chs D I) I p b) = true ∧ rt (wrD D I p b) = true := by
  have h := rc_iff.2 (wr_ok hr hI hI2 b.length b p (Nat.le_refl _) hp)
  exact ⟨h, rt_app hr h⟩
theorem wrD_get (hr : rt D = true) (K : ByteArray) : get (wrD D I p b) K = lastV K (get D K) (wrL (chs D I) I p b) := get_app K _ (rt_iff.1 hr).1
theorem wrD_far (hr : rt D = true) (hI : 1 ≤ I) (hI2 : I < 4294967296) (hp : p + b.length ≤ 65536) {K : ByteArray} (hK : ∀ k, Tch p b.length k → K ≠ cky I k) : get (wrD D I p b) K = get D K := by
  rw [wrD_get hr]; exact (wr_last hr hI hI2 b.length b p (Nat.le_refl _) hp).1 K _ hK
theorem wrD_cn (hr : rt D = true) (hI : 1 ≤ I) (hI2 : I < 4294967296) (hp : p + b.length ≤ 65536) {k : Nat} (hk : Tch p b.length k) : CnO (get (wrD D I p b) (cky I k)) := by
  rw [wrD_get hr]; exact ((wr_last hr hI hI2 b.length b p (Nat.le_refl _) hp).2 k hk).1
/-- each byte behind a Write -/
theorem wrD_bo (hr : rt D = true) (hI : 1 ≤ I) (hI2 : I < 4294967296) (hp : p + b.length ≤ 65536) {k j : Nat} (hk : k < 512) (hj : j < 128) :
    bo (get (wrD D I p b) (cky I k)) j = if p ≤ k * 128 + j ∧ k * 128 + j < p + b.length then zb b (k * 128 + j - p) else bo (get D (cky I k)) j := by
  by_cases ht : Tch p b.length k
  · rw [wrD_get hr]; exact ((wr_last hr hI hI2 b.length b p (Nat.le_refl _) hp).2 k ht).2 j hj
  · rw [wrD_far hr hI hI2 hp (fun k' h e => ht (by
      have hk' : k' < 512 := by have := h.2.2; omega
      rw [(cky_inj hI hI2 hI hI2 hk hk' e).2]; exact h)), if_neg]
    rintro ⟨h1, h2⟩
    exact ht ⟨by omega, by omega, by omega⟩
theorem wrD_other (hr : rt D = true) (hI : 1 ≤ I) (hI2 : I < 4294967296) (hp : p + b.length ≤ 65536) {J k : Nat} (hJ : 1 ≤ J) (hJ2 : J < 4294967296) (hne : J ≠ I) (hk : k < 512) : get (wrD D I p b) (cky J k) = get D (cky J k) :=
  wrD_far hr hI hI2 hp fun k' h e => hne (cky_inj hJ hJ2 hI hI2 hk (by have := h.2.2; omega) e).1
/-- what is read behind a Write -/
theorem wrD_bt (hr : rt D = true) (hI : 1 ≤ I) (hI2 : I < 4294967296) (hp : p + b.length ≤ 65536) {P : Nat} (hP : P < 65536) :
    btC (chs (wrD D I p b) I) P = if p ≤ P ∧ P < p + b.length then zb b (P - p) else btC (chs D I) P := by
  rw [btC_get (wrD_rt hr hI hI2 hp).2 hI hI2 hP, btC_get hr hI hI2 hP, wrD_bo hr hI hI2 hp (by omega) (by omega), show P / 128 * 128 + P % 128 = P by omega]
theorem wrD_bt_other (hr : rt D = true) (hI : 1 ≤ I) (hI2 : I < 4294967296) (hp : p + b.length ≤ 65536) {J P : Nat} (hJ : 1 ≤ J) (hJ2 : J < 4294967296) (hne : J ≠ I) (hP : P < 65536) : btC (chs (wrD D I p b) J) P = btC (chs D J) P := by
  rw [btC_get (wrD_rt hr hI hI2 hp).2 hJ hJ2 hP, btC_get hr hJ hJ2 hP, wrD_other hr hI hI2 hp hJ hJ2 hne (by omega)]
theorem ov_same {c : Ck} {x : ByteArray} (h : ov (kpC c.k x) = ov (akC c)) (hv : c.h = false → c.v = ByteArray.empty) : kpC c.k x = akC c := by
  obtain ⟨n, k, h', v⟩ := c
  unfold ov akC at h
  unfold kpC akC
  unfold kpC at h
  dsimp only at h hv ⊢
  cases h' with
  | true =>
    rw [if_pos rfl] at h
    split at h
    · rename_i h0
      rw [h0, Option.some.inj h]
    · cases h
  | false =>
    rw [hv rfl]
    split at h
    · cases h
    · rename_i h0
      have h0 : ¬ 0 < (cutB x).size := by simpa using h0
      rw [decide_eq_false h0, Ino.size0 (s := cutB x) (by omega)]
/-- a Write of what is there -/
theorem wr_again (hI : 1 ≤ I) (hI2 : I < 4294967296) {m : List Itm} (hr : rt m = true) : ∀ (N : Nat) (b : List UInt8) (p : Nat), b.length ≤ N → p + b.length ≤ 65536 →
    (∀ k, Tch p b.length k → CnO (get m (cky I k)) ∧ ∀ j, j < 128 → p ≤ k * 128 + j → k * 128 + j < p + b.length → bo (get m (cky I k)) j = zb b (k * 128 + j - p)) → wrL (chs m I) I p b = [] := by
  intro N
  induction N with
  | zero =>
    intro b p hb _ _
    have : b = [] := List.eq_nil_of_length_eq_zero (by omega)
    subst this
    exact wrL_nil _ _ _
  | succ N ih =>
    intro b p hb hp h
    by_cases hbe : b = []
    · subst hbe; exact wrL_nil _ _ _
    have hb0 : 0 < b.length := List.length_pos_iff.2 hbe
    obtain ⟨k0, hk0⟩ : ∃ k, p / 128 = k := ⟨_, rfl⟩
    obtain ⟨q, hq⟩ : ∃ q, p % 128 = q := ⟨_, rfl⟩
    obtain ⟨n, hn⟩ : ∃ n, min b.length (128 - q) = n := ⟨_, rfl⟩
    obtain ⟨c, hc⟩ : ∃ c, fnd (chs m I) I k0 = c := ⟨_, rfl⟩
    have hk9 : k0 < 512 := by omega
    obtain ⟨f1, f2, f3⟩ := fnd_get hr hI hI2 hk9
    have f4 := fnd_off (D := m) (k := k0) hI hI2
    rw [hc] at f1 f2 f3 f4
    rw [wrL_go (c := c) (q := q) (n := n) hbe (by rw [hk0]; exact hc) hq hn]
    have hdl : (b.drop n).length = b.length - n := List.length_drop
    have htl : (b.take n).length = n := by rw [List.length_take]; omega
    obtain ⟨g1, g2⟩ := h k0 ⟨hb0, by omega, by omega⟩
    have hsame : nwC c q (b.take n) = akC c := by
      have ho : ov (nwC c q (b.take n)) = ov (akC c) := by
        rw [f2]
        refine cnO_ext (cn_nw _ _ _ (by rw [htl]; omega)) g1 fun j hj => ?_
        rw [bo_nw c q _ hj, htl, f3]
        by_cases hin : q ≤ j ∧ j < q + n
        · rw [if_pos hin, g2 j hj (by omega) (by omega)]
          unfold zb
          rw [List.getElem?_take, if_pos (by omega), show k0 * 128 + j - p = j - q by omega]
        · rw [if_neg hin]
      exact ov_same ho f4
    rw [if_pos (eqH_iff.2 hsame), List.nil_append]
    refine ih (b.drop n) (p + n) (by rw [hdl]; omega) (by rw [hdl]; omega) fun k hk => ?_
    unfold Tch at hk
    rw [hdl] at hk ⊢
    obtain ⟨h1, h2⟩ := h k ⟨hb0, by omega, by omega⟩
    refine ⟨h1, fun j hj ha hb' => ?_⟩
    rw [h2 j hj (by omega) (by omega)]
    unfold zb
    rw [List.getElem?_drop, show n + (k * 128 + j - (p + n)) = k * 128 + j - p by omega]
theorem wrD_again (hr : rt D = true) (hI : 1 ≤ I) (hI2 : I < 4294967296) (hp : p + b.length ≤ 65536) : wrL (chs (wrD D I p b) I) I p b = [] :=
  wr_again hI hI2 (wrD_rt hr hI hI2 hp).2 b.length b p (Nat.le_refl _) hp fun k hk => ⟨wrD_cn hr hI hI2 hp hk, fun j hj h1 h2 => by
    rw [wrD_bo hr hI hI2 hp (by have := hk.2.2; omega) hj, if_pos ⟨h1, h2⟩]⟩
/-- two lists that have the same by each key -/
theorem get_ext {A B : List Itm} (hA : rt A = true) (hB : rt B = true) (h : ∀ K, get A K = get B K) : A = B :=
  It.up_ext (rt_iff.1 hA).1 (rt_iff.1 hB).1 fun x => by
    have h1 := get_iff (rt_iff.1 hA).1 x.k x.v
    have h2 := get_iff (rt_iff.1 hB).1 x.k x.v
    rw [h] at h1
    exact h1.symm.trans h2
end
/-- two Writes that do not meet, in whichever order -/
theorem wr_apart {D : List Itm} {I a b : Nat} {s t : List UInt8} (hr : rt D = true) (hI : 1 ≤ I) (hI2 : I < 4294967296) (hab : a + s.length ≤ b) (hb : b + t.length ≤ 65536) : wrD (wrD D I a s) I b t = wrD (wrD D I b t) I a s := by
  have ha : a + s.length ≤ 65536 := by omega
  have r1 := (wrD_rt (b := s) hr hI hI2 ha).2
  have r2 := (wrD_rt (b := t) hr hI hI2 hb).2
  refine get_ext (wrD_rt r1 hI hI2 hb).2 (wrD_rt r2 hI hI2 ha).2 fun K => ?_
  by_cases hk : ∃ k, k < 512 ∧ K = cky I k
  · obtain ⟨k, hk, rfl⟩ := hk
    by_cases ht : Tch b t.length k
    · by_cases hs : Tch a s.length k
      · refine cnO_ext (wrD_cn r1 hI hI2 hb ht) (wrD_cn r2 hI hI2 ha hs) fun j hj => ?_
        rw [wrD_bo r1 hI hI2 hb hk hj, wrD_bo hr hI hI2 ha hk hj, wrD_bo r2 hI hI2 ha hk hj, wrD_bo hr hI hI2 hb hk hj]
        by_cases h1 : b ≤ k * 128 + j ∧ k * 128 + j < b + t.length
        · rw [if_pos h1, if_neg (by omega), if_pos h1]
        · rw [if_neg h1, if_neg h1]
      · have far : ∀ {E : List Itm}, rt E = true → get (wrD E I a s) (cky I k) = get E (cky I k) := fun hE => wrD_far hE hI hI2 ha fun k' h e => hs (by rw [(cky_inj hI hI2 hI hI2 hk (by have := h.2.2; omega) e).2]; exact h)
        rw [far r2]
        refine cnO_ext (wrD_cn r1 hI hI2 hb ht) (wrD_cn hr hI hI2 hb ht) fun j hj => ?_
        rw [wrD_bo r1 hI hI2 hb hk hj, wrD_bo hr hI hI2 hb hk hj, far hr]
    · have far : ∀ {E : List Itm}, rt E = true → get (wrD E I b t) (cky I k) = get E (cky I k) := fun hE => wrD_far hE hI hI2 hb fun k' h e => ht (by rw [(cky_inj hI hI2 hI hI2 hk (by have := h.2.2; omega) e).2]; exact h)
      rw [far r1]
      by_cases hs : Tch a s.length k
      · refine cnO_ext (wrD_cn hr hI hI2 ha hs) (wrD_cn r2 hI hI2 ha hs) fun j hj => ?_
        rw [wrD_bo hr hI hI2 ha hk hj, wrD_bo r2 hI hI2 ha hk hj, far hr]
      · have far2 : ∀ {E : List Itm}, rt E = true → get (wrD E I a s) (cky I k) = get E (cky I k) := fun hE => wrD_far hE hI hI2 ha fun k' h e => hs (by rw [(cky_inj hI hI2 hI hI2 hk (by have := h.2.2; omega) e).2]; exact h)
        rw [far2 hr, far2 r2, far hr]
  · have f : ∀ {E : List Itm} {p : Nat} {u : List UInt8}, rt E = true → p + u.length ≤ 65536 → get (wrD E I p u) K = get E K := fun hE hp => wrD_far hE hI hI2 hp fun k h e => hk ⟨k, by have := h.2.2; omega, e⟩
    rw [f r1 hb, f hr ha, f r2 ha, f hr hb]
end Go.Proofs.YtcnggidihkcndaaGreatDoor.Da
/- Plain mathematics of DataBack. No walk here. -/
namespace Go.Proofs.YtcnggidihkcndaaGreatDoor.Da
set_option linter.unusedVariables false
set_option linter.unusedSimpArgs false
open It (Itm Ch ckey key get app lastV get_app get_iff rt rt_iff rc rc_iff UpK okC okI okKey rt_app up_app)
theorem wrE_zero {D : List Itm} {I o : Nat} {s : ByteArray} (h : wrE D I o s = 0) : ec D I = 0 ∧ o + s.size ≤ 65536 := by
  unfold wrE at h
  split at h
  · rename_i he
    split at h
    · cases h
    · exact ⟨he, by omega⟩
  · rename_i he; exact absurd h he
theorem ec_rt {D E : List Itm} (hD : rt D = true) (hE : rt E = true) (J : Nat) : ec E J = ec D J := by unfold ec; rw [hD, hE]
theorem ec_ok {D : List Itm} (hD : rt D = true) {I : Nat} (hI : 1 ≤ I) : ec D I = 0 := by unfold ec; rw [hD, if_pos rfl, if_neg (by omega)]
theorem rdE_of {D : List Itm} {I z : Nat} (h : ec D I = 0) (hz : z ≤ 65536) : rdE D I z = 0 := by unfold rdE; rw [if_pos h, if_neg (by omega)]
theorem rdE_rt {D E : List Itm} (hD : rt D = true) (hE : rt E = true) (J z : Nat) : rdE E J z = rdE D J z := by unfold rdE; rw [ec_rt hD hE]
theorem rdV_of {D : List Itm} {I z o n : Nat} (h : rdE D I z = 0) : rdV D I z o n = ⟨(rdC (chs D I) o (min (o + n) z)).toArray⟩ := by unfold rdV; rw [if_pos h]
theorem rdV_no {D : List Itm} {I z o n : Nat} (h : rdE D I z ≠ 0) : rdV D I z o n = ByteArray.empty := by unfold rdV; rw [if_neg h]
theorem szl (s : ByteArray) : s.data.toList.length = s.size := bsl s
section
variable {D : List Itm} {I o : Nat} {s : ByteArray}
theorem back_all (hI2 : I < 4294967296) (h : wrE D I o s = 0) : rt D = true ∧ 1 ≤ I ∧ o + s.data.toList.length ≤ 65536 ∧ rc (wrL (chs D I) I o s.data.toList) = true ∧ rt (wrD D I o s.data.toList) = true := by
  obtain ⟨h1, h2⟩ := wrE_zero h
  obtain ⟨hr, hI⟩ := ec_zero h1
  have hp : o + s.data.toList.length ≤ 65536 := by rw [szl]; exact h2
  exact ⟨hr, hI, hp, wrD_rt hr hI hI2 hp⟩
theorem back_read (hI2 : I < 4294967296) (h : wrE D I o s = 0) : rdE (wrD D I o s.data.toList) I 65536 = 0 ∧ rdV (wrD D I o s.data.toList) I 65536 o s.size = s := by
  obtain ⟨hr, hI, hp, _, hm⟩ := back_all hI2 h
  have he := rdE_of (ec_ok hm hI) (Nat.le_refl 65536)
  refine ⟨he, ?_⟩
  rw [rdV_of he]
  have hl := szl s
  have : rdC (chs (wrD D I o s.data.toList) I) o (min (o + s.size) 65536) = s.data.toList := by
    rw [Nat.min_eq_left (by omega)]
    apply List.ext_getElem?
    intro j
    by_cases hj : j < s.size
    · rw [rdC_get _ _ _ _ (by omega), wrD_bt hr hI hI2 hp (by omega), if_pos (by omega), show o + j - o = j by omega]
      unfold zb
      rw [List.getElem?_eq_getElem (by omega)]
      rfl
    · rw [List.getElem?_eq_none (by rw [rdC_len]; omega), List.getElem?_eq_none (by omega)]
  rw [this]
theorem rdC_one (cs : List Ck) (k : Nat) : rdC cs k (k + 1) = [btC cs k] := by
  unfold rdC
  rw [show k + 1 - k = 1 by omega]
  rfl
theorem rdV_one {E : List Itm} {J k : Nat} (h : rdE E J 65536 = 0) (hk : k < 65536) : rdV E J 65536 k 1 = ⟨#[btC (chs E J) k]⟩ := by
  rw [rdV_of h, Nat.min_eq_left (by omega), rdC_one]
theorem back_err (hI2 : I < 4294967296) (h : wrE D I o s = 0) (J : Nat) : rdE (wrD D I o s.data.toList) J 65536 = rdE D J 65536 := by
  obtain ⟨hr, hI, hp, _, hm⟩ := back_all hI2 h
  exact rdE_rt hr hm J _
theorem back_other (hI2 : I < 4294967296) (h : wrE D I o s = 0) {J k : Nat} (hJ2 : J < 4294967296) (hk : k < 65536) (hw : ¬ (J = I ∧ o ≤ k ∧ k < o + s.size)) : rdV (wrD D I o s.data.toList) J 65536 k 1 = rdV D J 65536 k 1 := by
  obtain ⟨hr, hI, hp, _, hm⟩ := back_all hI2 h
  have he := rdE_rt hr hm J 65536
  by_cases h0 : rdE D J 65536 = 0
  · rw [rdV_one h0 hk, rdV_one (by rw [he]; exact h0) hk]
    have hJ : 1 ≤ J := by
      unfold rdE at h0
      split at h0
      · rename_i h1; exact (ec_zero h1).2
      · rename_i h1; exact absurd h0 h1
    by_cases hJI : J = I
    · subst hJI
      rw [wrD_bt hr hI hI2 hp hk, if_neg (by rw [szl]; intro h2; exact hw ⟨rfl, h2⟩)]
    · rw [wrD_bt_other hr hI hI2 hp hJ hJ2 hJI hk]
  · rw [rdV_no h0, rdV_no (by rw [he]; exact h0)]
theorem back_again (hI2 : I < 4294967296) (h : wrE D I o s = 0) : wrE (wrD D I o s.data.toList) I o s = 0 ∧ wrL (chs (wrD D I o s.data.toList) I) I o s.data.toList = [] := by
  obtain ⟨hr, hI, hp, _, hm⟩ := back_all hI2 h
  refine ⟨?_, wrD_again hr hI hI2 hp⟩
  unfold wrE
  rw [if_pos (ec_ok hm hI), if_neg (by have := szl s; omega)]
end
end Go.Proofs.YtcnggidihkcndaaGreatDoor.Da
/- How long lists are behind changes; a Write's and a Cut's changes are few. -/
namespace Go.Proofs.YtcnggidihkcndaaGreatDoor.It
set_option linter.unusedVariables false
open Ar Rg St
theorem don_len (c : Ch) : ∀ (D : List Itm) (put : Bool), (donL c put D).length ≤ D.length + 1
  | [], put => by cases put <;> simp [donL]
  | x :: r, true => by
    have := don_len c r true
    rw [donL_true]
    exact Nat.le_trans (List.length_filter_le _ _) (by simp)
  | x :: r, false => by
    rw [donL]
    by_cases h : lt (key x) (ckey c) = true
    · rw [h]
      have := don_len c r false
      have h2 : (if key x = ckey c then [] else [x]).length ≤ 1 := by split <;> simp
      simp only [Bool.not_true, Bool.and_false, Bool.false_eq_true, if_false, List.nil_append, List.length_append, Bool.or_false, List.length_cons]
      omega
    · have h : lt (key x) (ckey c) = false := by simpa using h
      rw [h, show (false || !false) = true from rfl, donL_true]
      have h1 := List.length_filter_le (fun x => decide (key x ≠ ckey c)) r
      have h2 : (if key x = ckey c then [] else [x]).length ≤ 1 := by split <;> simp
      simp only [Bool.not_false, Bool.and_true, if_true, List.length_append, List.length_cons, List.length_nil]
      omega
theorem app_len : ∀ (C : List Ch) (D : List Itm), (app D C).length ≤ D.length + C.length
  | [], D => by simp [app]
  | c :: C, D => by
    rw [app_cons]
    have h1 := app_len C (don c D)
    have h2 : (don c D).length ≤ D.length + 1 := don_len c D _
    simp only [List.length_cons]
    omega
end Go.Proofs.YtcnggidihkcndaaGreatDoor.It
namespace Go.Proofs.YtcnggidihkcndaaGreatDoor.Da
set_option linter.unusedVariables false
open It (Itm Ch app app_len)
theorem wrL_len (D : List Ck) (I : Nat) : ∀ (N : Nat) (b : List UInt8) (p : Nat), b.length ≤ N → (wrL D I p b).length ≤ b.length := by
  intro N
  induction N with
  | zero =>
    intro b p hb
    have : b = [] := List.eq_nil_of_length_eq_zero (by omega)
    subst this
    rw [wrL_nil]; exact Nat.le_refl _
  | succ N ih =>
    intro b p hb
    by_cases hbe : b = []
    · subst hbe; rw [wrL_nil]; exact Nat.le_refl _
    have hb0 : 0 < b.length := List.length_pos_iff.2 hbe
    obtain ⟨n, hn⟩ : ∃ n, min b.length (128 - p % 128) = n := ⟨_, rfl⟩
    rw [wrL_go hbe rfl rfl hn, List.length_append]
    have h1 := ih (b.drop n) (p + n) (by rw [List.length_drop]; omega)
    rw [List.length_drop] at h1
    have h2 : (if eqH (nwC (fnd D I (p / 128)) (p % 128) (b.take n)) (akC (fnd D I (p / 128))) then ([] : List Ch) else [nwC (fnd D I (p / 128)) (p % 128) (b.take n)]).length ≤ 1 := by split <;> simp
    omega
theorem wrD_len (D : List Itm) (I p : Nat) (b : List UInt8) : (wrD D I p b).length ≤ D.length + b.length := by
  have h1 := app_len (wrL (chs D I) I p b) D
  have h2 := wrL_len (chs D I) I b.length b p (Nat.le_refl _)
  unfold wrD
  omega
theorem ctL_len (D : List Ck) (z : Nat) : (ctL D z).length ≤ D.length := by
  unfold ctL
  induction D with
  | nil => exact Nat.le_refl _
  | cons c D ih =>
    rw [List.flatMap_cons, List.length_append, List.length_cons]
    have := ctC_len z c
    omega
end Go.Proofs.YtcnggidihkcndaaGreatDoor.Da
/- The walk of DataBack: what was written is read at its place. -/
namespace Go.Proofs.YtcnggidihkcndaaGreatDoor.Da
set_option linter.unusedVariables false
set_option linter.unusedSimpArgs false
set_option maxRecDepth 100000
open Go.ChangeShapes Go.WideShapes Go.ChangeAt Go.RowKit
open Ar Rg
open It (Itm Ch MkI MkC rt rc app er apply_any)
open BigFrame
theorem str_self (x : ByteArray) : (x.toList != x.toList) = false := by simp
theorem Read_max (D : List Itm) (I o nn : Nat) (hI : I < 4294967296) (ho : o < 4294967296) (hnn : nn < 4294967296) (A : Option Addr) (n c B : Nat) (hn : n = D.length) (hc : n ≤ c) (hcm : c ≤ maxLen) (hlen : n ≤ 4398046511104) (w : World) (hB : B ≤ w.heap.size) (hD : Ls It.enc 2 w B A D) :
    Calls Tryz.prog 11 #[.slice A n c, .int .u32 I, .int .u32 65536, .int .u32 o, .int .u32 nn] w fun e w' => e = .returned (.tuple #[.string (rdV D I 65536 o nn), .int .i64 (rdE D I 65536)]) ∧ Below w.heap.size w w' :=
  Read_any D I 65536 o nn hI (by omega) ho hnn A n c B hn hc hcm hlen w hB hD
theorem Read_byte (D : List Itm) (I o : Nat) (hI : I < 4294967296) (ho : o < 4294967296) (A : Option Addr) (n c B : Nat) (hn : n = D.length) (hc : n ≤ c) (hcm : c ≤ maxLen) (hlen : n ≤ 4398046511104) (w : World) (hB : B ≤ w.heap.size) (hD : Ls It.enc 2 w B A D) :
    Calls Tryz.prog 11 #[.slice A n c, .int .u32 I, .int .u32 65536, .int .u32 o, .int .u32 1] w fun e w' => e = .returned (.tuple #[.string (rdV D I 65536 o 1), .int .i64 (rdE D I 65536)]) ∧ Below w.heap.size w w' :=
  Read_any D I 65536 o 1 hI (by omega) ho (by omega) A n c B hn hc hcm hlen w hB hD
set_option maxHeartbeats 4000000 in
theorem dataBack_walk (D : List Itm) (I o : Nat) (s : ByteArray) (J at_ : Nat) (hI : I < 4294967296) (ho : o < 4294967296) (hs : s.size ≤ 1048576) (hJ : J < 4294967296) (hat : at_ < 4294967296) (A : Option Addr) (n c : Nat) (hn : n = D.length) (hc : n ≤ c) (hcm : c ≤ maxLen) (hlen : n ≤ 1048576) (w : World) (hD : Ls It.enc 2 w w.heap.size A D) :
    Calls Tryz.prog 3 #[.slice A n c, .int .u32 I, .int .u32 o, .string s, .int .u32 J, .int .u32 at_] w fun e w' => e = .returned (.bool true) ∧ Below w.heap.size w w' := by
  have HL := Lib.hid (fun w => lives_true w)
  have HW := Lib.hid (fun (w1 : World) (hb : Below w.heap.size w w1) => Write_any D I o hI ho s (by omega) A n c w.heap.size hn hc hcm (by omega) w1 hb.size (hD.below hb))
  by_cases he : wrE D I o s = 0
  · obtain ⟨hr, hI1, hp, hrc, hrm⟩ := back_all hI he
    obtain ⟨hr1, hr2⟩ := back_read hI he
    obtain ⟨ha1, ha2⟩ := back_again hI he
    obtain ⟨k, hk⟩ : ∃ k, at_ % 65536 = k := ⟨_, rfl⟩
    have hk9 : k < 65536 := by omega
    have hes := back_err hI he J
    have hot := fun hw => back_other hI he (J := J) (k := k) hJ hk9 hw
    have hs9 : s.size ≤ 65536 := (wrE_zero he).2 |> fun h => by omega
    have hos : o + s.size ≤ 65536 := (wrE_zero he).2
    have hml := wrD_len D I o s.data.toList
    have hcl := wrL_len (chs D I) I s.data.toList.length s.data.toList o (Nat.le_refl _)
    rw [szl] at hml hcl
    have HA := Lib.hid (fun (w1 : World) (hb : Below w.heap.size w w1) m A' c' (hm : m = (wrL (chs D I) I o s.data.toList).length) (h : Ls Sc.enc 3 w1 w1.heap.size A' (wrL (chs D I) I o s.data.toList)) => (apply_any D (wrL (chs D I) I o s.data.toList) A A' n c m c' w.heap.size w1.heap.size hn hc hcm hm (by omega) (by omega) w1 hb.size (Nat.le_refl _) (hD.below hb) h))
    have HRD := Lib.hid (fun (w1 : World) (hb : Below w.heap.size w w1) => Read_byte D J k hJ (by omega) A n c w.heap.size hn hc hcm (by omega) w1 hb.size (hD.below hb))
    rw [hr, hrc] at HA
    rw [he] at HW
    obtain ⟨C, hC⟩ : ∃ C, wrL (chs D I) I o s.data.toList = C := ⟨_, rfl⟩
    obtain ⟨M, hM⟩ : ∃ M, wrD D I o s.data.toList = M := ⟨_, rfl⟩
    have hMM : app D C = M := by rw [← hC, ← hM]; rfl
    rw [hC] at HW HA hcl
    rw [hMM] at HA
    rw [hM] at hml hr1 hr2 ha1 ha2 hes hot
    have HRM := Lib.hid (fun (w1 w2 : World) (hb : Below w1.heap.size w1 w2) m A' c' (hm : m = M.length) (hc : m ≤ c') (hcm : c' ≤ maxLen) (h : Ls It.enc 2 w1 w1.heap.size A' M) => Read_max M I o s.size hI ho (by omega) A' m c' w1.heap.size hm hc hcm (by omega) w2 hb.size (h.below hb))
    rw [hr1, hr2] at HRM
    have HRJ := Lib.hid (fun (w1 w2 : World) (hb : Below w1.heap.size w1 w2) m A' c' (hm : m = M.length) (hc : m ≤ c') (hcm : c' ≤ maxLen) (h : Ls It.enc 2 w1 w1.heap.size A' M) => Read_byte M J k hJ (by omega) A' m c' w1.heap.size hm hc hcm (by omega) w2 hb.size (h.below hb))
    rw [hes] at HRJ
    have HWM := Lib.hid (fun (w1 w2 : World) (hb : Below w1.heap.size w1 w2) m A' c' (hm : m = M.length) (hc : m ≤ c') (hcm : c' ≤ maxLen) (h : Ls It.enc 2 w1 w1.heap.size A' M) => Write_any M I o hI ho s (by omega) A' m c' w1.heap.size hm hc hcm (by omega) w2 hb.size (h.below hb))
    rw [ha1, ha2] at HWM
    have HOT := Lib.hid hot
    generalize rdE D J 65536 = E at *
    obtain ⟨x, hx⟩ : ∃ x, rdV D J 65536 k 1 = x := ⟨_, rfl⟩
    obtain ⟨y, hy⟩ : ∃ y, rdV M J 65536 k 1 = y := ⟨_, rfl⟩
    rw [hx] at HRD HOT
    rw [hy] at HRJ HOT
    have i1 : (at_ : Int) % 65536 = (k : Int) := by omega
    have i2 : IntKind.u32.wrap (s.size : Int) = (s.size : Int) := by simp [IntKind.wrap, IntKind.bits, IntKind.signed]; omega
    have s0 := str_self s
    clear hr hrc hrm hr1 hr2 ha1 ha2 hes hot hC hM hMM hml hcl hx hy hn hD hk he hp hc hcm
    go_enter Tryz.func3, Tryz.ntmps3
    go_wp2_with fail
    (with_reducible refine (HL.out _).mono ?_)
    rintro e w1 ⟨rfl, hb1⟩
    have B1 := Lib.hid hb1
    clear hb1 HL
    go_wp2_with fail
    (with_reducible refine (HW.out _ B1.out).mono ?_)
    rintro e w2 ⟨v, rfl, hm⟩
    simp only [if_true] at hm
    have B2 := Lib.hid (B1.out.trans (hm.2.mono B1.out.size))
    obtain ⟨A2, c2, hv, _, _, hl2⟩ := hm.ls Sc.enc_len
    obtain ⟨m2, hm2⟩ : ∃ m, m = C.length := ⟨_, rfl⟩
    rw [← hm2] at hv
    subst hv
    have L2 := Lib.hid hl2
    have N2 := Lib.hid hm2
    clear hm hl2 hm2 HW B1
    go_wp2_with fail
    (with_reducible refine (HA.out _ B2.out _ _ _ N2.out L2.out).mono ?_)
    rintro e w3 ⟨v, he3, hm⟩
    have he' : e = .returned (.tuple #[v, .int .i64 0]) := he3
    subst he'
    have hm3 : MkI w2 w3 v M := hm
    have B3 := Lib.hid (B2.out.trans (hm3.2.mono B2.out.size))
    obtain ⟨A3, c3, hv, hc3, hcm3, hl3⟩ := hm3.ls It.enc_len
    obtain ⟨m3, hmm3⟩ : ∃ m, m = M.length := ⟨_, rfl⟩
    rw [← hmm3] at hv hc3
    subst hv
    have L3 := Lib.hid hl3
    have N3 := Lib.hid hmm3
    have C3 := Lib.hid hc3
    have D3 := Lib.hid hcm3
    clear he3 hm hm3 hl3 hmm3 hc3 hcm3 HA L2 N2 B2
    go_wp2_with fail
    (with_reducible refine (HRM.out w3 w3 (Below.refl _ _) _ _ _ N3.out C3.out D3.out L3.out).mono ?_)
    rintro e w4 ⟨rfl, hb4⟩
    have B4 := Lib.hid (B3.out.trans (hb4.mono B3.out.size))
    have G4 := Lib.hid hb4
    clear hb4 HRM
    go_wp2_with fail
    (with_reducible refine (HRD.out _ B4.out).mono ?_)
    rintro e w5 ⟨rfl, hb5⟩
    have B5 := Lib.hid (B4.out.trans (hb5.mono B4.out.size))
    have G5 := Lib.hid (G4.out.trans (hb5.mono G4.out.size))
    clear hb5 HRD B4 G4
    go_wp2_with fail
    (with_reducible refine (HRJ.out w3 w5 G5.out _ _ _ N3.out C3.out D3.out L3.out).mono ?_)
    rintro e w6 ⟨rfl, hb6⟩
    have B6 := Lib.hid (B5.out.trans (hb6.mono B5.out.size))
    have G6 := Lib.hid (G5.out.trans (hb6.mono G5.out.size))
    clear hb6 HRJ B5 G5
    by_cases hJI : J = I
    · have q1 : ((J : Int) == (I : Int)) = true := by rw [hJI, beq_self_eq_true]
      by_cases hko : o ≤ k
      · have q2 : decide (o ≤ k) = true := decide_eq_true hko
        obtain ⟨d, hd⟩ : ∃ d, k - o = d := ⟨_, rfl⟩
        have i5 : (k : Int) - (o : Int) = (d : Int) := by omega
        have i6 : IntKind.u32.wrap (d : Int) = (d : Int) := by simp [IntKind.wrap, IntKind.bits, IntKind.signed]; omega
        have hd9 : d < 65536 := by omega
        by_cases hds : d < s.size
        · have q3 : decide (d < s.size) = true := decide_eq_true hds
          clear hJI hko hd hds HOT
          go_wp2_with fail
          (with_reducible refine (HWM.out w3 w6 G6.out _ _ _ N3.out C3.out D3.out L3.out).mono ?_)
          rintro e w7 ⟨v, rfl, hm⟩
          simp only [if_true] at hm
          have B7 := Lib.hid (B6.out.trans (hm.2.mono B6.out.size))
          obtain ⟨A7, c7, hv, _⟩ := hm.ls Sc.enc_len
          have hv : v = .slice A7 0 c7 := hv
          subst hv
          clear hm HWM
          go_wp2
          go_ret
          exact ⟨rfl, B7.out⟩
        · have q3 : decide (d < s.size) = false := decide_eq_false hds
          have hyx : y = x := HOT.out (fun h => hds (by omega))
          subst hyx
          clear hJI hko hd hds HOT
          go_wp2_with fail
          (with_reducible refine (HWM.out w3 w6 G6.out _ _ _ N3.out C3.out D3.out L3.out).mono ?_)
          rintro e w7 ⟨v, rfl, hm⟩
          simp only [if_true] at hm
          have B7 := Lib.hid (B6.out.trans (hm.2.mono B6.out.size))
          obtain ⟨A7, c7, hv, _⟩ := hm.ls Sc.enc_len
          have hv : v = .slice A7 0 c7 := hv
          subst hv
          clear hm HWM
          go_wp2
          go_ret
          exact ⟨rfl, B7.out⟩
      · have q2 : decide (o ≤ k) = false := decide_eq_false hko
        have hyx : y = x := HOT.out (fun h => hko h.2.1)
        subst hyx
        clear hJI hko HOT
        go_wp2_with fail
        (with_reducible refine (HWM.out w3 w6 G6.out _ _ _ N3.out C3.out D3.out L3.out).mono ?_)
        rintro e w7 ⟨v, rfl, hm⟩
        simp only [if_true] at hm
        have B7 := Lib.hid (B6.out.trans (hm.2.mono B6.out.size))
        obtain ⟨A7, c7, hv, _⟩ := hm.ls Sc.enc_len
        have hv : v = .slice A7 0 c7 := hv
        subst hv
        clear hm HWM
        go_wp2
        go_ret
        exact ⟨rfl, B7.out⟩
    · have q1 : ((J : Int) == (I : Int)) = false := by rw [beq_eq_false_iff_ne]; omega
      have hyx : y = x := HOT.out (fun h => hJI h.1)
      subst hyx
      clear hJI HOT
      go_wp2_with fail
      (with_reducible refine (HWM.out w3 w6 G6.out _ _ _ N3.out C3.out D3.out L3.out).mono ?_)
      rintro e w7 ⟨v, rfl, hm⟩
      simp only [if_true] at hm
      have B7 := Lib.hid (B6.out.trans (hm.2.mono B6.out.size))
      obtain ⟨A7, c7, hv, _⟩ := hm.ls Sc.enc_len
      have hv : v = .slice A7 0 c7 := hv
      subst hv
      clear hm HWM
      go_wp2
      go_ret
      exact ⟨rfl, B7.out⟩
  · obtain ⟨x, hx⟩ : ∃ x, wrE D I o s = x := ⟨_, rfl⟩
    rw [hx] at HW he
    have q0 := bne0 he
    have HNE := Lib.hid he
    clear hx he hn hD hc hcm
    go_enter Tryz.func3, Tryz.ntmps3
    go_wp2_with fail
    (with_reducible refine (HL.out _).mono ?_)
    rintro e w1 ⟨rfl, hb1⟩
    have B1 := Lib.hid hb1
    clear hb1 HL
    go_wp2_with fail
    (with_reducible refine (HW.out _ B1.out).mono ?_)
    rintro e w2 ⟨v, rfl, hm⟩
    rw [if_neg HNE.out] at hm
    have B2 := Lib.hid (B1.out.trans (hm.2.mono B1.out.size))
    obtain ⟨A2, c2, hv, _⟩ := hm.ls Sc.enc_len
    have hv : v = .slice A2 0 c2 := hv
    subst hv
    clear hm HW
    go_wp2
    go_ret
    exact ⟨rfl, B2.out⟩
end Go.Proofs.YtcnggidihkcndaaGreatDoor.Da
/- Plain mathematics of data's Cut: what is there behind it. No walk here. -/
namespace Go.Proofs.YtcnggidihkcndaaGreatDoor.Da
set_option linter.unusedVariables false
set_option linter.unusedSimpArgs false
open It (Itm Ch ckey key get app lastV get_app get_iff rt rt_iff rc rc_iff UpK okC okI okKey rt_app up_app)
open Tm (cutL cutB)
theorem ct_cons (c : Ck) (cs : List Ck) (z : Nat) : ctL (c :: cs) z = ctC z c ++ ctL cs z := by unfold ctL; rw [List.flatMap_cons]
theorem ct_one (z : Nat) (c : Ck) (K : ByteArray) (o : Option ByteArray) : lastV K o (ctC z c) = if c.k = K ∧ (z - c.n * 128 = 0 ∨ z - c.n * 128 < c.v.size) then ov (kpC c.k (c.v.extract 0 (z - c.n * 128))) else o := by
  unfold ctC
  by_cases h : z - c.n * 128 = 0 ∨ z - c.n * 128 < c.v.size
  · rw [if_pos h]
    show (if ckey (kpC c.k (c.v.extract 0 (z - c.n * 128))) = K.data.toList then ov (kpC c.k (c.v.extract 0 (z - c.n * 128))) else o) = _
    have : ckey (kpC c.k (c.v.extract 0 (z - c.n * 128))) = K.data.toList ↔ c.k = K := ba_list
    by_cases hk : c.k = K
    · rw [if_pos (this.2 hk), if_pos ⟨hk, h⟩]
    · rw [if_neg (fun e => hk (this.1 e)), if_neg (fun e => hk e.1)]
  · rw [if_neg h, if_neg (fun e => h e.2)]
    rfl
theorem ct_last1 (z : Nat) (K : ByteArray) : ∀ (cs : List Ck) (o : Option ByteArray), (∀ c ∈ cs, c.k ≠ K) → lastV K o (ctL cs z) = o
  | [], _, _ => rfl
  | c :: cs, o, h => by
    rw [ct_cons, lastV_app, ct_one, if_neg (fun e => h c List.mem_cons_self e.1)]
    exact ct_last1 z K cs o fun d hd => h d (List.mem_cons_of_mem _ hd)
theorem ct_last2 (z : Nat) : ∀ (cs : List Ck) (o : Option ByteArray) (c : Ck), cs.Pairwise (fun a b => a.k ≠ b.k) → c ∈ cs → lastV c.k o (ctL cs z) = if z - c.n * 128 = 0 ∨ z - c.n * 128 < c.v.size then ov (kpC c.k (c.v.extract 0 (z - c.n * 128))) else o
  | d :: cs, o, c, hp, hc => by
    obtain ⟨h1, h2⟩ := List.pairwise_cons.1 hp
    rw [ct_cons, lastV_app, ct_one]
    rcases List.mem_cons.1 hc with rfl | hc
    · rw [ct_last1 z c.k cs _ fun d hd e => h1 d hd e.symm]
      by_cases h : z - c.n * 128 = 0 ∨ z - c.n * 128 < c.v.size
      · rw [if_pos h, if_pos ⟨rfl, h⟩]
      · rw [if_neg h, if_neg (fun e => h e.2)]
    · rw [if_neg (fun e => h1 c hc e.1)]
      exact ct_last2 z cs o c h2 hc
theorem chs_keys {D : List Itm} {I : Nat} (hr : rt D = true) (hI : 1 ≤ I) (hI2 : I < 4294967296) : (chs D I).Pairwise fun a b => a.k ≠ b.k :=
  List.Pairwise.imp_of_mem (fun {a b} ha hb hlt e => by
    obtain ⟨k, v, hk, _, rfl⟩ := (mem_chs hI hI2 a).1 ha
    obtain ⟨l, u, hl, _, rfl⟩ := (mem_chs hI hI2 b).1 hb
    have h1 : k < l := hlt
    have h2 := (cky_inj hI hI2 hI hI2 hk hl e).2
    omega) (chs_up hr hI hI2)
/-- what is there behind a Cut -/
def ctD (D : List Itm) (I z : Nat) : List Itm := app D (ctL (chs D I) z)
section
variable {D : List Itm} {I z : Nat}
theorem ctD_rt (hr : rt D = true) (hI : 1 ≤ I) (hI2 : I < 4294967296) : rc (ctL (chs D I) z) = true ∧ rt (ctD D I z) = true := by
  have h : rc (ctL (chs D I) z) = true := rc_iff.2 fun x hx => by
    obtain ⟨c, hc, hx⟩ := List.mem_flatMap.1 hx
    obtain ⟨k, v, hk, _, rfl⟩ := (mem_chs hI hI2 c).1 hc
    have hv := (chs_sz hr hI hI2 _ hc).2
    unfold ctC at hx
    split at hx
    · rw [List.mem_singleton.1 hx]
      refine okC_kp (cky_ok hI hk) ?_
      have hv : v.size ≤ 160 := hv
      show (v.extract 0 (z - k * 128)).size ≤ 160
      simp
      omega
    · cases hx
  exact ⟨h, rt_app hr h⟩
theorem ctD_get (hr : rt D = true) (K : ByteArray) : get (ctD D I z) K = lastV K (get D K) (ctL (chs D I) z) := get_app K _ (rt_iff.1 hr).1
theorem ct_yes (hr : rt D = true) (hI : 1 ≤ I) (hI2 : I < 4294967296) {k : Nat} (hk : k < 512) {v : ByteArray} (hg : get D (cky I k) = some v) :
    get (ctD D I z) (cky I k) = if z - k * 128 = 0 ∨ z - k * 128 < v.size then ov (kpC (cky I k) (v.extract 0 (z - k * 128))) else some v := by
  have hm : (⟨k, cky I k, true, v⟩ : Ck) ∈ chs D I := (mem_chs hI hI2 _).2 ⟨k, v, hk, (get_iff (rt_iff.1 hr).1 _ _).1 hg, rfl⟩
  rw [ctD_get hr, hg]
  exact ct_last2 z (chs D I) (some v) ⟨k, cky I k, true, v⟩ (chs_keys hr hI hI2) hm
theorem ct_far (hr : rt D = true) (hI : 1 ≤ I) (hI2 : I < 4294967296) {K : ByteArray} (hK : ∀ k v, k < 512 → get D (cky I k) = some v → cky I k ≠ K) : get (ctD D I z) K = get D K := by
  rw [ctD_get hr]
  exact ct_last1 z K _ _ fun c hc => by
    obtain ⟨k, v, hk, hm, rfl⟩ := (mem_chs hI hI2 c).1 hc
    exact hK k v hk ((get_iff (rt_iff.1 hr).1 _ _).2 hm)
theorem ct_none (hr : rt D = true) (hI : 1 ≤ I) (hI2 : I < 4294967296) {k : Nat} (hk : k < 512) (hg : get D (cky I k) = none) : get (ctD D I z) (cky I k) = none := by
  rw [ct_far hr hI hI2 fun l v hl hv e => by rw [e, hg] at hv; cases hv]
  exact hg
theorem ct_other (hr : rt D = true) (hI : 1 ≤ I) (hI2 : I < 4294967296) {J k : Nat} (hJ : 1 ≤ J) (hJ2 : J < 4294967296) (hne : J ≠ I) (hk : k < 512) : get (ctD D I z) (cky J k) = get D (cky J k) :=
  ct_far hr hI hI2 fun l v hl _ e => hne (cky_inj hI hI2 hJ hJ2 hl hk e).1.symm
theorem zb_ext0 (v : ByteArray) (a j : Nat) : zb (v.extract 0 a).data.toList j = if j < a then zb v.data.toList j else 0 := by
  unfold zb
  rw [ByteArray.data_extract, Array.toList_extract, List.extract_eq_take_drop, List.drop_zero, Nat.sub_zero, List.getElem?_take]
  split <;> rfl
/-- what is read behind a Cut -/
theorem ctD_bt (hr : rt D = true) (hI : 1 ≤ I) (hI2 : I < 4294967296) {P : Nat} (hP : P < 65536) : btC (chs (ctD D I z) I) P = if P < z then btC (chs D I) P else 0 := by
  rw [btC_get (ctD_rt hr hI hI2).2 hI hI2 hP, btC_get hr hI hI2 hP]
  cases hg : get D (cky I (P / 128)) with
  | none =>
    rw [ct_none hr hI hI2 (by omega) hg]
    show (0 : UInt8) = if P < z then 0 else 0
    split <;> rfl
  | some v =>
    rw [ct_yes hr hI hI2 (by omega) hg]
    by_cases h : z - P / 128 * 128 = 0 ∨ z - P / 128 * 128 < v.size
    · rw [if_pos h, bo_kp, zb_ext0]
      have e : (P % 128 < z - P / 128 * 128) ↔ P < z := by omega
      by_cases hz : P < z
      · rw [if_pos (e.2 hz), if_pos hz]; rfl
      · rw [if_neg (fun x => hz (e.1 x)), if_neg hz]
    · rw [if_neg h]
      by_cases hz : P < z
      · rw [if_pos hz]
      · rw [if_neg hz]
        exact zb_out (by rw [bsl]; omega)
theorem ctD_bt_other (hr : rt D = true) (hI : 1 ≤ I) (hI2 : I < 4294967296) {J P : Nat} (hJ : 1 ≤ J) (hJ2 : J < 4294967296) (hne : J ≠ I) (hP : P < 65536) : btC (chs (ctD D I z) J) P = btC (chs D J) P := by
  rw [btC_get (ctD_rt hr hI hI2).2 hJ hJ2 hP, btC_get hr hJ hJ2 hP, ct_other hr hI hI2 hJ hJ2 hne (by omega)]
/-- cut again -/
theorem ctD_again (hr : rt D = true) (hI : 1 ≤ I) (hI2 : I < 4294967296) : ctL (chs (ctD D I z) I) z = [] := by
  unfold ctL
  rw [List.flatMap_eq_nil_iff]
  intro c hc
  have hm := (ctD_rt (z := z) hr hI hI2).2
  obtain ⟨k, v', hk, hmem, rfl⟩ := (mem_chs hI hI2 c).1 hc
  have hg' := (get_iff (rt_iff.1 hm).1 _ _).2 hmem
  unfold ctC
  dsimp only
  rw [if_neg]
  cases hg : get D (cky I k) with
  | none => rw [ct_none hr hI hI2 hk hg] at hg'; cases hg'
  | some v =>
    rw [ct_yes hr hI hI2 hk hg] at hg'
    split at hg'
    · rename_i h
      unfold ov kpC at hg'
      dsimp only at hg'
      split at hg'
      · rename_i h0
        have h0 := of_decide_eq_true h0
        have e := Option.some.inj hg'
        have h1 := bsl (cutB (v.extract 0 (z - k * 128)))
        have h2 := bsl (v.extract 0 (z - k * 128))
        have h3 := cut_len (v.extract 0 (z - k * 128)).data.toList
        rw [cutB_list] at h1
        have h4 : (v.extract 0 (z - k * 128)).size = min (z - k * 128) v.size := by simp
        rw [← e]
        omega
      · cases hg'
    · rename_i h
      rw [← Option.some.inj hg']
      exact h
/-- nothing is left of a file that is cut to nothing -/
theorem ct_zero (hr : rt D = true) (hI : 1 ≤ I) (hI2 : I < 4294967296) : chs (ctD D I 0) I = [] := by
  have hm := (ctD_rt (z := 0) hr hI hI2).2
  rw [List.eq_nil_iff_forall_not_mem]
  intro c hc
  obtain ⟨k, v', hk, hmem, rfl⟩ := (mem_chs hI hI2 c).1 hc
  have hg' := (get_iff (rt_iff.1 hm).1 _ _).2 hmem
  cases hg : get D (cky I k) with
  | none => rw [ct_none hr hI hI2 hk hg] at hg'; cases hg'
  | some v =>
    rw [ct_yes hr hI hI2 hk hg, if_pos (.inl (Nat.zero_sub _))] at hg'
    unfold ov kpC at hg'
    dsimp only at hg'
    split at hg'
    · rename_i h0
      have h0 := of_decide_eq_true h0
      have h1 := bsl (cutB (v.extract 0 (0 - k * 128)))
      have h2 := bsl (v.extract 0 (0 - k * 128))
      have h3 := cut_len (v.extract 0 (0 - k * 128)).data.toList
      rw [cutB_list] at h1
      have h4 : (v.extract 0 (0 - k * 128)).size = min (0 - k * 128) v.size := by simp
      omega
    · cases hg'
theorem ctD_len (D : List Itm) (I z : Nat) : (ctD D I z).length ≤ D.length + (chs D I).length := by
  have h1 := It.app_len (ctL (chs D I) z) D
  have h2 := ctL_len (chs D I) z
  unfold ctD
  omega
end
end Go.Proofs.YtcnggidihkcndaaGreatDoor.Da
/- The walk of DataCut: what was cut is read as it was up to there, and as zero bytes behind it. -/
namespace Go.Proofs.YtcnggidihkcndaaGreatDoor.Da
set_option linter.unusedVariables false
set_option linter.unusedSimpArgs false
set_option maxRecDepth 100000
open Go.ChangeShapes Go.WideShapes Go.ChangeAt Go.RowKit
open Ar Rg
open It (Itm Ch MkI MkC rt rc app er apply_any)
open BigFrame
theorem rdE_zero {D : List Itm} {I z : Nat} (h : rdE D I z = 0) : rt D = true ∧ 1 ≤ I ∧ z ≤ 65536 := by
  unfold rdE at h
  split at h
  · rename_i he
    split at h
    · cases h
    · exact ⟨(ec_zero he).1, (ec_zero he).2, by omega⟩
  · rename_i he; exact absurd h he
theorem cut_all {D : List Itm} {I z : Nat} (hI : I < 4294967296) (h : rdE D I z = 0) : rt D = true ∧ 1 ≤ I ∧ z ≤ 65536 ∧ rc (ctL (chs D I) z) = true ∧ rt (ctD D I z) = true ∧ rdE (ctD D I z) I z = 0 ∧ rdE D I 65536 = 0 ∧ rdE (ctD D I z) I 65536 = 0 ∧ ctL (chs (ctD D I z) I) z = [] ∧ (ctL (chs D I) z).length ≤ 512 ∧ (ctD D I z).length ≤ D.length + 512 := by
  obtain ⟨hr, hI1, hz⟩ := rdE_zero h
  have hm := ctD_rt (z := z) hr hI1 hI
  have h1 := chs_few hr hI1 hI
  have h2 := ctL_len (chs D I) z
  have h3 := ctD_len D I z
  exact ⟨hr, hI1, hz, hm.1, hm.2, rdE_of (ec_ok hm.2 hI1) hz, rdE_of (ec_ok hr hI1) (Nat.le_refl _), rdE_of (ec_ok hm.2 hI1) (Nat.le_refl _), ctD_again hr hI1 hI, by omega, by omega⟩
theorem cut_read {D : List Itm} {I z k : Nat} (hI : I < 4294967296) (hk : k < 65536) (h : rdE D I z = 0) : (k < z → rdV (ctD D I z) I 65536 k 1 = rdV D I 65536 k 1) ∧ (¬ k < z → rdV (ctD D I z) I 65536 k 1 = ⟨#[0]⟩) := by
  obtain ⟨hr, hI1, hz, _, hm, _, h1, h2, _⟩ := cut_all hI h
  rw [rdV_one h1 hk, rdV_one h2 hk, ctD_bt hr hI1 hI hk]
  exact ⟨fun h => by rw [if_pos h], fun h => by rw [if_neg h]⟩
theorem Cut_lit (D : List Itm) (I z : Nat) (hI : I < 4294967296) (hz : z < 4294967296) (A : Option Addr) (n c B : Nat) (hn : n = D.length) (hc : n ≤ c) (hcm : c ≤ maxLen) (hlen : n ≤ 4398046511104) (w : World) (hB : B ≤ w.heap.size) (hD : Ls It.enc 2 w B A D) (zi : Int) (hzi : zi = z) :
    Calls Tryz.prog 12 #[.slice A n c, .int .u32 I, .int .u32 zi] w (ChPost w (rdE D I z) (ctL (chs D I) z)) := by
  subst hzi
  exact Cut_any D I z hI hz A n c B hn hc hcm hlen w hB hD
set_option maxHeartbeats 4000000 in
theorem dataCut_walk (D : List Itm) (I z at_ : Nat) (hI : I < 4294967296) (hz : z < 4294967296) (hat : at_ < 4294967296) (A : Option Addr) (n c : Nat) (hn : n = D.length) (hc : n ≤ c) (hcm : c ≤ maxLen) (hlen : n ≤ 1048576) (w : World) (hD : Ls It.enc 2 w w.heap.size A D) :
    Calls Tryz.prog 4 #[.slice A n c, .int .u32 I, .int .u32 z, .int .u32 at_] w fun e w' => e = .returned (.bool true) ∧ Below w.heap.size w w' := by
  have HL := Lib.hid (fun w => lives_true w)
  have HW := Lib.hid (fun (w1 : World) (hb : Below w.heap.size w w1) => Cut_any D I z hI hz A n c w.heap.size hn hc hcm (by omega) w1 hb.size (hD.below hb))
  by_cases he : rdE D I z = 0
  · obtain ⟨hr, hI1, hz9, hrc, hrm, hez, he1, he2, hag, hcl, hml⟩ := cut_all hI he
    obtain ⟨k, hk⟩ : ∃ k, at_ % 65536 = k := ⟨_, rfl⟩
    have hk9 : k < 65536 := by omega
    have hrd := cut_read (k := k) hI hk9 he
    have HA := Lib.hid (fun (w1 : World) (hb : Below w.heap.size w w1) m A' c' (hm : m = (ctL (chs D I) z).length) (h : Ls Sc.enc 3 w1 w1.heap.size A' (ctL (chs D I) z)) => (apply_any D (ctL (chs D I) z) A A' n c m c' w.heap.size w1.heap.size hn hc hcm hm (by omega) (by omega) w1 hb.size (Nat.le_refl _) (hD.below hb) h))
    have HRD := Lib.hid (fun (w1 : World) (hb : Below w.heap.size w w1) => Read_byte D I k hI (by omega) A n c w.heap.size hn hc hcm (by omega) w1 hb.size (hD.below hb))
    rw [hr, hrc] at HA
    rw [he] at HW
    rw [he1] at HRD
    obtain ⟨C, hC⟩ : ∃ C, ctL (chs D I) z = C := ⟨_, rfl⟩
    obtain ⟨M, hM⟩ : ∃ M, ctD D I z = M := ⟨_, rfl⟩
    have hMM : app D C = M := by rw [← hC, ← hM]; rfl
    rw [hC] at HW HA hcl
    rw [hMM] at HA
    rw [hM] at hml hrm hez he2 hag hrd
    have HRM := Lib.hid (fun (w1 w2 : World) (hb : Below w1.heap.size w1 w2) m A' c' (hm : m = M.length) (hc : m ≤ c') (hcm : c' ≤ maxLen) (h : Ls It.enc 2 w1 w1.heap.size A' M) => Read_byte M I k hI (by omega) A' m c' w1.heap.size hm hc hcm (by omega) w2 hb.size (h.below hb))
    rw [he2] at HRM
    have HCM := Lib.hid (fun (w1 w2 : World) (hb : Below w1.heap.size w1 w2) m A' c' (hm : m = M.length) (hc : m ≤ c') (hcm : c' ≤ maxLen) (h : Ls It.enc 2 w1 w1.heap.size A' M) => Cut_any M I z hI hz A' m c' w1.heap.size hm hc hcm (by omega) w2 hb.size (h.below hb))
    rw [hez, hag] at HCM
    have HRV := Lib.hid hrd
    obtain ⟨x, hx⟩ : ∃ x, rdV D I 65536 k 1 = x := ⟨_, rfl⟩
    obtain ⟨y, hy⟩ : ∃ y, rdV M I 65536 k 1 = y := ⟨_, rfl⟩
    rw [hx] at HRD HRV
    rw [hy] at HRM HRV
    have i1 : (at_ : Int) % 65536 = (k : Int) := by omega
    clear hr hrc hrm hez he1 he2 hag hrd hC hM hMM hml hcl hx hy hn hD hk he hc hcm
    go_enter Tryz.func4, Tryz.ntmps4
    go_wp2_with fail
    (with_reducible refine (HL.out _).mono ?_)
    rintro e w1 ⟨rfl, hb1⟩
    have B1 := Lib.hid hb1
    clear hb1 HL
    go_wp2_with fail
    (with_reducible refine (HW.out _ B1.out).mono ?_)
    rintro e w2 ⟨v, rfl, hm⟩
    simp only [if_true] at hm
    have B2 := Lib.hid (B1.out.trans (hm.2.mono B1.out.size))
    obtain ⟨A2, c2, hv, _, _, hl2⟩ := hm.ls Sc.enc_len
    obtain ⟨m2, hm2⟩ : ∃ m, m = C.length := ⟨_, rfl⟩
    rw [← hm2] at hv
    subst hv
    have L2 := Lib.hid hl2
    have N2 := Lib.hid hm2
    clear hm hl2 hm2 HW B1
    go_wp2_with fail
    (with_reducible refine (HA.out _ B2.out _ _ _ N2.out L2.out).mono ?_)
    rintro e w3 ⟨v, he3, hm⟩
    have he' : e = .returned (.tuple #[v, .int .i64 0]) := he3
    subst he'
    have hm3 : MkI w2 w3 v M := hm
    have B3 := Lib.hid (B2.out.trans (hm3.2.mono B2.out.size))
    obtain ⟨A3, c3, hv, hc3, hcm3, hl3⟩ := hm3.ls It.enc_len
    obtain ⟨m3, hmm3⟩ : ∃ m, m = M.length := ⟨_, rfl⟩
    rw [← hmm3] at hv hc3
    subst hv
    have L3 := Lib.hid hl3
    have N3 := Lib.hid hmm3
    have C3 := Lib.hid hc3
    have D3 := Lib.hid hcm3
    clear he3 hm hm3 hl3 hmm3 hc3 hcm3 HA L2 N2 B2
    go_wp2_with fail
    (with_reducible refine (HRD.out _ B3.out).mono ?_)
    rintro e w4 ⟨rfl, hb4⟩
    have B4 := Lib.hid (B3.out.trans (hb4.mono B3.out.size))
    have G4 := Lib.hid hb4
    clear hb4 HRD
    go_wp2_with fail
    (with_reducible refine (HRM.out w3 _ G4.out _ _ _ N3.out C3.out D3.out L3.out).mono ?_)
    rintro e w5 ⟨rfl, hb5⟩
    have B5 := Lib.hid (B4.out.trans (hb5.mono B4.out.size))
    have G5 := Lib.hid (G4.out.trans (hb5.mono G4.out.size))
    clear hb5 HRM B4 G4
    go_wp2_with fail
    (with_reducible refine (HCM.out w3 _ G5.out _ _ _ N3.out C3.out D3.out L3.out).mono ?_)
    rintro e w6 ⟨v, rfl, hm⟩
    simp only [if_true] at hm
    have B6 := Lib.hid (B5.out.trans (hm.2.mono B5.out.size))
    obtain ⟨A7, c7, hv, _⟩ := hm.ls Sc.enc_len
    have hv : v = .slice A7 0 c7 := hv
    subst hv
    clear hm HCM
    by_cases hkz : k < z
    · have q3 : decide (k < z) = true := decide_eq_true hkz
      have hyx := HRV.out.1 hkz
      subst hyx
      clear hkz HRV
      go_wp2
      go_ret
      exact ⟨rfl, B6.out⟩
    · have q3 : decide (k < z) = false := decide_eq_false hkz
      have hyx := HRV.out.2 hkz
      subst hyx
      clear hkz HRV
      go_wp2
      go_ret
      exact ⟨rfl, B6.out⟩
  · obtain ⟨x, hx⟩ : ∃ x, rdE D I z = x := ⟨_, rfl⟩
    rw [hx] at HW he
    have q0 := bne0 he
    have HNE := Lib.hid he
    clear hx he hn hD hc hcm
    go_enter Tryz.func4, Tryz.ntmps4
    go_wp2_with fail
    (with_reducible refine (HL.out _).mono ?_)
    rintro e w1 ⟨rfl, hb1⟩
    have B1 := Lib.hid hb1
    clear hb1 HL
    go_wp2_with fail
    (with_reducible refine (HW.out _ B1.out).mono ?_)
    rintro e w2 ⟨v, rfl, hm⟩
    rw [if_neg HNE.out] at hm
    have B2 := Lib.hid (B1.out.trans (hm.2.mono B1.out.size))
    obtain ⟨A2, c2, hv, _⟩ := hm.ls Sc.enc_len
    have hv : v = .slice A2 0 c2 := hv
    subst hv
    clear hm HW
    go_wp2
    go_ret
    exact ⟨rfl, B2.out⟩
end Go.Proofs.YtcnggidihkcndaaGreatDoor.Da
/- The walk of DataApart: bytes written at two places that do not meet are the same in whichever order. Written by mk_das.py. -/
namespace Go.Proofs.YtcnggidihkcndaaGreatDoor.Da
set_option linter.unusedVariables false
set_option linter.unusedSimpArgs false
set_option maxRecDepth 100000
open Go.ChangeShapes Go.WideShapes Go.ChangeAt Go.RowKit
open Ar Rg
open It (Itm Ch MkI MkC rt rc app er apply_any same_any sm sm_iff)
open BigFrame
theorem ap_all {D : List Itm} {I o : Nat} {s : ByteArray} (hI2 : I < 4294967296) (hr : rt D = true) (hI : 1 ≤ I) (ho : o + s.size ≤ 65536) : wrE D I o s = 0 ∧ rc (wrL (chs D I) I o s.data.toList) = true ∧ rt (wrD D I o s.data.toList) = true ∧ (wrL (chs D I) I o s.data.toList).length ≤ s.size ∧ (wrD D I o s.data.toList).length ≤ D.length + s.size := by
  have h := szl s
  obtain ⟨h1, h2⟩ := wrD_rt (b := s.data.toList) (p := o) hr hI hI2 (by omega)
  have h3 := wrD_len D I o s.data.toList
  have h4 := wrL_len (chs D I) I s.data.toList.length s.data.toList o (Nat.le_refl _)
  refine ⟨?_, h1, h2, by omega, by omega⟩
  unfold wrE
  rw [if_pos (ec_ok hr hI), if_neg (by omega)]
/-- Write, its answer named -/
theorem Wr_named (D : List Itm) (I o : Nat) (hI : I < 4294967296) (ho : o < 4294967296) (s : ByteArray) (hs : s.size ≤ 140737488351232) (E : Int) (R : List Ch) (hE : wrE D I o s = E) (hR : (if E = 0 then wrL (chs D I) I o s.data.toList else []) = R) (A : Option Addr) (n c B : Nat) (hn : n = D.length) (hc : n ≤ c) (hcm : c ≤ maxLen) (hlen : n ≤ 4398046511104) (w : World) (hB : B ≤ w.heap.size) (hD : Ls It.enc 2 w B A D) :
    Calls Tryz.prog 9 #[.slice A n c, .int .u32 I, .int .u32 o, .string s] w fun e w' => ∃ v, e = .returned (.tuple #[v, .int .i64 E]) ∧ MkC w w' v R := by
  subst hE hR
  exact Write_any D I o hI ho s hs A n c B hn hc hcm hlen w hB hD
/-- Apply, its answer named -/
theorem Ap_named (D : List Itm) (C : List Ch) (E : Int) (M : List Itm) (hE : er (rt D && rc C) = E) (hM : (if rt D && rc C then app D C else []) = M) (A A' : Option Addr) (n c m c' B B' : Nat) (hn : n = D.length) (hc : n ≤ c) (hcm : c ≤ maxLen) (hm : m = C.length) (hlen : n ≤ 1099511627776) (hlen' : m ≤ 1099511627776) (w : World) (hB : B ≤ w.heap.size) (hB' : B' ≤ w.heap.size) (hX : Ls It.enc 2 w B A D) (hY : Ls Sc.enc 3 w B' A' C) :
    Calls Tryz.prog 10 #[.slice A n c, .slice A' m c'] w fun e w' => ∃ v, e = .returned (.tuple #[v, .int .i64 E]) ∧ MkI w w' v M := by
  subst hE hM
  exact apply_any D C A A' n c m c' B B' hn hc hcm hm hlen hlen' w hB hB' hX hY
theorem Same_eq (D : List Itm) (A A' : Option Addr) (n c n' c' B B' : Nat) (hn : n = D.length) (hn' : n' = D.length) (hm : n ≤ 281474976710656) (w : World) (hB : B ≤ w.heap.size) (hB' : B' ≤ w.heap.size) (hD : Ls It.enc 2 w B A D) (hE : Ls It.enc 2 w B' A' D) :
    Calls Tryz.prog 13 #[.slice A n c, .slice A' n' c'] w fun e w' => e = .returned (.bool true) ∧ Below w.heap.size w w' := by
  have h := same_any D D A A' n c n' c' B B' hn hn' hm w hB hB' hD hE
  rw [sm_iff.2 rfl] at h
  exact h
theorem app_len' (D : List Itm) (C : List Ch) : (if rt D && rc C then app D C else []).length ≤ D.length + C.length := by
  split
  · exact It.app_len C D
  · simp
set_option maxHeartbeats 4000000 in
theorem dataApart_walk (D : List Itm) (I a b : Nat) (s t : ByteArray) (hI : I < 4294967296) (ha : a < 4294967296) (hb : b < 4294967296) (hs : s.size ≤ 1048576) (ht : t.size ≤ 1048576) (A : Option Addr) (n c : Nat) (hn : n = D.length) (hc : n ≤ c) (hcm : c ≤ maxLen) (hlen : n ≤ 1048576) (w : World) (hD : Ls It.enc 2 w w.heap.size A D) :
    Calls Tryz.prog 6 #[.slice A n c, .int .u32 I, .int .u32 a, .int .u32 b, .string s, .string t] w fun e w' => e = .returned (.bool true) ∧ Below w.heap.size w w' := by
  have HL := Lib.hid (fun w => lives_true w)
  obtain ⟨p1, hp1⟩ : ∃ p, decide ((1000 : Int) < (s.size : Int)) = p := ⟨_, rfl⟩
  obtain ⟨p2, hp2⟩ : ∃ p, decide ((1000 : Int) < (t.size : Int)) = p := ⟨_, rfl⟩
  obtain ⟨p3, hp3⟩ : ∃ p, decide ((60000 : Int) < (a : Int)) = p := ⟨_, rfl⟩
  obtain ⟨p4, hp4⟩ : ∃ p, decide ((60000 : Int) < (b : Int)) = p := ⟨_, rfl⟩
  obtain ⟨e0, he0⟩ : ∃ e, a + s.size = e := ⟨_, rfl⟩
  have j1 : IntKind.u64.wrap (s.size : Int) = (s.size : Int) := by simp [IntKind.wrap, IntKind.bits, IntKind.signed]; omega
  have j2 : IntKind.u64.wrap (a : Int) = (a : Int) := by simp [IntKind.wrap, IntKind.bits, IntKind.signed]; omega
  have j3 : IntKind.u64.wrap (b : Int) = (b : Int) := by simp [IntKind.wrap, IntKind.bits, IntKind.signed]; omega
  have j4 : (a : Int) + (s.size : Int) = (e0 : Int) := by omega
  have j5 : IntKind.u64.wrap (e0 : Int) = (e0 : Int) := by simp [IntKind.wrap, IntKind.bits, IntKind.signed]; omega
  have j6 : IntKind.u64.wrap ((a : Int) + (s.size : Int)) = (e0 : Int) := by rw [j4, j5]
  obtain ⟨p5, hp5⟩ : ∃ p, decide (b < e0) = p := ⟨_, rfl⟩
  by_cases hg1 : p1 = true
  · subst hg1
    clear hn hc hcm hlen hD
    go_enter Tryz.func6, Tryz.ntmps6
    go_wp2_with fail
    (with_reducible refine (HL.out _).mono ?_)
    rintro e w1 ⟨rfl, hb1⟩
    go_wp2
    go_ret
    exact ⟨rfl, hb1⟩
  have hg1 : p1 = false := by simpa using hg1
  subst hg1
  by_cases hg2 : p2 = true
  · subst hg2
    clear hn hc hcm hlen hD
    go_enter Tryz.func6, Tryz.ntmps6
    go_wp2_with fail
    (with_reducible refine (HL.out _).mono ?_)
    rintro e w1 ⟨rfl, hb1⟩
    go_wp2
    go_ret
    exact ⟨rfl, hb1⟩
  have hg2 : p2 = false := by simpa using hg2
  subst hg2
  by_cases hg3 : p3 = true
  · subst hg3
    clear hn hc hcm hlen hD
    go_enter Tryz.func6, Tryz.ntmps6
    go_wp2_with fail
    (with_reducible refine (HL.out _).mono ?_)
    rintro e w1 ⟨rfl, hb1⟩
    go_wp2
    go_ret
    exact ⟨rfl, hb1⟩
  have hg3 : p3 = false := by simpa using hg3
  subst hg3
  by_cases hg4 : p4 = true
  · subst hg4
    clear hn hc hcm hlen hD
    go_enter Tryz.func6, Tryz.ntmps6
    go_wp2_with fail
    (with_reducible refine (HL.out _).mono ?_)
    rintro e w1 ⟨rfl, hb1⟩
    go_wp2
    go_ret
    exact ⟨rfl, hb1⟩
  have hg4 : p4 = false := by simpa using hg4
  subst hg4
  by_cases hg5 : p5 = true
  · subst hg5
    clear hn hc hcm hlen hD
    go_enter Tryz.func6, Tryz.ntmps6
    go_wp2_with fail
    (with_reducible refine (HL.out _).mono ?_)
    rintro e w1 ⟨rfl, hb1⟩
    go_wp2
    go_ret
    exact ⟨rfl, hb1⟩
  have hg5 : p5 = false := by simpa using hg5
  subst hg5
  have k1 := of_decide_eq_false hp1
  have k2 := of_decide_eq_false hp2
  have k3 := of_decide_eq_false hp3
  have k4 := of_decide_eq_false hp4
  have k5 := of_decide_eq_false hp5
  have k6 : a + s.size ≤ b := by omega
  have k7 : a + s.size ≤ 65536 := by omega
  have k8 : b + t.size ≤ 65536 := by omega
  have k9 : s.size ≤ 1000 := by omega
  have k10 : t.size ≤ 1000 := by omega
  clear k1 k2 k3 k4 k5 he0
  by_cases he : ec D I = 0
  · obtain ⟨hr, hI1⟩ := ec_zero he
    obtain ⟨x1, x2, x3, x4, x5⟩ := ap_all (o := a) (s := s) hI hr hI1 k7
    obtain ⟨y1, y2, y3, y4, y5⟩ := ap_all (o := b) (s := t) hI hr hI1 k8
    obtain ⟨u1, u2, u3, u4, u5⟩ := ap_all (o := b) (s := t) hI x3 hI1 k8
    obtain ⟨v1, v2, v3, v4, v5⟩ := ap_all (o := a) (s := s) hI y3 hI1 k7
    have hap := wr_apart (D := D) (I := I) (a := a) (b := b) (s := s.data.toList) (t := t.data.toList) hr hI1 hI (by rw [szl]; exact k6) (by rw [szl]; exact k8)
    obtain ⟨M1, hM1⟩ : ∃ M, wrD D I a s.data.toList = M := ⟨_, rfl⟩
    obtain ⟨N1, hN1⟩ : ∃ M, wrD D I b t.data.toList = M := ⟨_, rfl⟩
    rw [hM1] at x3 x5 u1 u2 u3 u4 u5 hap
    rw [hN1] at y3 y5 v1 v2 v3 v4 v5 hap
    rw [← hap] at v3 v5
    obtain ⟨M2, hM2⟩ : ∃ M, wrD M1 I b t.data.toList = M := ⟨_, rfl⟩
    rw [hM2] at u3 u5 v3 v5 hap
    obtain ⟨C1, hC1⟩ : ∃ C, wrL (chs D I) I a s.data.toList = C := ⟨_, rfl⟩
    obtain ⟨K1, hK1⟩ : ∃ C, wrL (chs D I) I b t.data.toList = C := ⟨_, rfl⟩
    obtain ⟨C2, hC2⟩ : ∃ C, wrL (chs M1 I) I b t.data.toList = C := ⟨_, rfl⟩
    obtain ⟨K2, hK2⟩ : ∃ C, wrL (chs N1 I) I a s.data.toList = C := ⟨_, rfl⟩
    rw [hC1] at x2 x4
    rw [hK1] at y2 y4
    rw [hC2] at u2 u4
    rw [hK2] at v2 v4
    have a1 : app D C1 = M1 := by rw [← hC1, ← hM1]; rfl
    have a2 : app D K1 = N1 := by rw [← hK1, ← hN1]; rfl
    have a3 : app M1 C2 = M2 := by rw [← hC2, ← hM2]; rfl
    have a4 : app N1 K2 = M2 := by rw [hap, ← hK2]; rfl
    have HW1 := Lib.hid (fun (w1 : World) (hb : Below w.heap.size w w1) => Wr_named D I a hI (by omega) s (by omega) 0 C1 x1 (by rw [if_pos rfl, hC1]) A n c w.heap.size hn hc hcm (by omega) w1 hb.size (hD.below hb))
    have HA1 := Lib.hid (fun (w1 : World) (hb : Below w.heap.size w w1) m A' c' (hm : m = C1.length) (h : Ls Sc.enc 3 w1 w1.heap.size A' C1) => Ap_named D C1 0 M1 (by rw [hr, x2]; rfl) (by rw [hr, x2]; exact a1) A A' n c m c' w.heap.size w1.heap.size hn hc hcm hm (by omega) (by omega) w1 hb.size (Nat.le_refl _) (hD.below hb) h)
    have HW2 := Lib.hid (fun (w1 w2 : World) (hb : Below w1.heap.size w1 w2) m A' c' (hm : m = M1.length) (hc : m ≤ c') (hcm : c' ≤ maxLen) (h : Ls It.enc 2 w1 w1.heap.size A' M1) => Wr_named M1 I b hI (by omega) t (by omega) 0 C2 u1 (by rw [if_pos rfl, hC2]) A' m c' w1.heap.size hm hc hcm (by omega) w2 hb.size (h.below hb))
    have HA2 := Lib.hid (fun (w1 w2 : World) (hb : Below w1.heap.size w1 w2) m A' c' (hm : m = M1.length) (hc : m ≤ c') (hcm : c' ≤ maxLen) (h : Ls It.enc 2 w1 w1.heap.size A' M1) m2 A2 c2 (hm2 : m2 = C2.length) (h2 : Ls Sc.enc 3 w2 w2.heap.size A2 C2) => Ap_named M1 C2 0 M2 (by rw [x3, u2]; rfl) (by rw [x3, u2]; exact a3) A' A2 m c' m2 c2 w1.heap.size w2.heap.size hm hc hcm hm2 (by omega) (by omega) w2 hb.size (Nat.le_refl _) (h.below hb) h2)
    have HW3 := Lib.hid (fun (w1 : World) (hb : Below w.heap.size w w1) => Wr_named D I b hI (by omega) t (by omega) 0 K1 y1 (by rw [if_pos rfl, hK1]) A n c w.heap.size hn hc hcm (by omega) w1 hb.size (hD.below hb))
    have HA3 := Lib.hid (fun (w1 : World) (hb : Below w.heap.size w w1) m A' c' (hm : m = K1.length) (h : Ls Sc.enc 3 w1 w1.heap.size A' K1) => Ap_named D K1 0 N1 (by rw [hr, y2]; rfl) (by rw [hr, y2]; exact a2) A A' n c m c' w.heap.size w1.heap.size hn hc hcm hm (by omega) (by omega) w1 hb.size (Nat.le_refl _) (hD.below hb) h)
    have HW4 := Lib.hid (fun (w1 w2 : World) (hb : Below w1.heap.size w1 w2) m A' c' (hm : m = N1.length) (hc : m ≤ c') (hcm : c' ≤ maxLen) (h : Ls It.enc 2 w1 w1.heap.size A' N1) => Wr_named N1 I a hI (by omega) s (by omega) 0 K2 v1 (by rw [if_pos rfl, hK2]) A' m c' w1.heap.size hm hc hcm (by omega) w2 hb.size (h.below hb))
    have HA4 := Lib.hid (fun (w1 w2 : World) (hb : Below w1.heap.size w1 w2) m A' c' (hm : m = N1.length) (hc : m ≤ c') (hcm : c' ≤ maxLen) (h : Ls It.enc 2 w1 w1.heap.size A' N1) m2 A2 c2 (hm2 : m2 = K2.length) (h2 : Ls Sc.enc 3 w2 w2.heap.size A2 K2) => Ap_named N1 K2 0 M2 (by rw [y3, v2]; rfl) (by rw [y3, v2]; exact a4) A' A2 m c' m2 c2 w1.heap.size w2.heap.size hm hc hcm hm2 (by omega) (by omega) w2 hb.size (Nat.le_refl _) (h.below hb) h2)
    have HSM := Lib.hid (fun (w1 w2 w3 : World) (h1 : Below w1.heap.size w1 w3) (h2 : Below w2.heap.size w2 w3) m A1 c1 m' A2 c2 (hm : m = M2.length) (hm' : m' = M2.length) (e1 : Ls It.enc 2 w1 w1.heap.size A1 M2) (e2 : Ls It.enc 2 w2 w2.heap.size A2 M2) => Same_eq M2 A1 A2 m c1 m' c2 w1.heap.size w2.heap.size hm hm' (by omega) w3 h1.size h2.size (e1.below h1) (e2.below h2))
    clear hr hI1 x1 x2 x3 x4 x5 y1 y2 y3 y4 y5 u1 u2 u3 u4 u5 v1 v2 v3 v4 v5 hap hM1 hN1 hM2 hC1 hK1 hC2 hK2 a1 a2 a3 a4 k6 k7 k8 k9 k10 hn hc hcm hlen hD he
    go_enter Tryz.func6, Tryz.ntmps6
    go_wp2_with fail
    (with_reducible refine (HL.out _).mono ?_)
    rintro e w1 ⟨rfl, hb1⟩
    have B1 := Lib.hid hb1
    clear hb1 HL
    go_wp2_with fail
    (with_reducible refine (HW1.out _ B1.out).mono ?_)
    rintro e w2 ⟨v, rfl, hm⟩
    have B2 := Lib.hid (B1.out.trans (hm.2.mono B1.out.size))
    have T2 := Lib.hid hm.2
    obtain ⟨A2, c2, hv, _, _, hl⟩ := hm.ls Sc.enc_len
    obtain ⟨m2, hmm⟩ : ∃ m, m = C1.length := ⟨_, rfl⟩
    rw [← hmm] at hv
    subst hv
    have L2 := Lib.hid hl
    have N2 := Lib.hid hmm
    clear hm hl hmm
    clear HW1
    go_wp2_with fail
    (with_reducible refine (HA1.out _ B2.out _ _ _ N2.out L2.out).mono ?_)
    rintro e w3 ⟨v, rfl, hm⟩
    have B3 := Lib.hid (B2.out.trans (hm.2.mono B2.out.size))
    have T3 := Lib.hid hm.2
    obtain ⟨A3, c3, hv, hc, hcm, hl⟩ := hm.ls It.enc_len
    obtain ⟨m3, hmm⟩ : ∃ m, m = M1.length := ⟨_, rfl⟩
    rw [← hmm] at hv hc
    subst hv
    have L3 := Lib.hid hl
    have N3 := Lib.hid hmm
    have C3 := Lib.hid hc
    have D3 := Lib.hid hcm
    clear hm hl hmm hc hcm
    clear HA1 T2
    go_wp2_with fail
    (with_reducible refine (HW2.out w3 _ (Below.refl _ _) _ _ _ N3.out C3.out D3.out L3.out).mono ?_)
    rintro e w4 ⟨v, rfl, hm⟩
    have B4 := Lib.hid (B3.out.trans (hm.2.mono B3.out.size))
    have T4 := Lib.hid hm.2
    obtain ⟨A4, c4, hv, _, _, hl⟩ := hm.ls Sc.enc_len
    obtain ⟨m4, hmm⟩ : ∃ m, m = C2.length := ⟨_, rfl⟩
    rw [← hmm] at hv
    subst hv
    have L4 := Lib.hid hl
    have N4 := Lib.hid hmm
    clear hm hl hmm
    clear HW2
    go_wp2_with fail
    (with_reducible refine (HA2.out w3 _ T4.out _ _ _ N3.out C3.out D3.out L3.out _ _ _ N4.out L4.out).mono ?_)
    rintro e w5 ⟨v, rfl, hm⟩
    have B5 := Lib.hid (B4.out.trans (hm.2.mono B4.out.size))
    have T5 := Lib.hid hm.2
    obtain ⟨A5, c5, hv, hc, hcm, hl⟩ := hm.ls It.enc_len
    obtain ⟨m5, hmm⟩ : ∃ m, m = M2.length := ⟨_, rfl⟩
    rw [← hmm] at hv hc
    subst hv
    have L5 := Lib.hid hl
    have N5 := Lib.hid hmm
    have C5 := Lib.hid hc
    have D5 := Lib.hid hcm
    clear hm hl hmm hc hcm
    clear HA2 T4 L3 L4
    go_wp2_with fail
    (with_reducible refine (HW3.out _ B5.out).mono ?_)
    rintro e w6 ⟨v, rfl, hm⟩
    have B6 := Lib.hid (B5.out.trans (hm.2.mono B5.out.size))
    have T6 := Lib.hid hm.2
    obtain ⟨A6, c6, hv, _, _, hl⟩ := hm.ls Sc.enc_len
    obtain ⟨m6, hmm⟩ : ∃ m, m = K1.length := ⟨_, rfl⟩
    rw [← hmm] at hv
    subst hv
    have L6 := Lib.hid hl
    have N6 := Lib.hid hmm
    clear hm hl hmm
    clear HW3
    have S6 := Lib.hid T6.out
    go_wp2_with fail
    (with_reducible refine (HA3.out _ B6.out _ _ _ N6.out L6.out).mono ?_)
    rintro e w7 ⟨v, rfl, hm⟩
    have B7 := Lib.hid (B6.out.trans (hm.2.mono B6.out.size))
    have T7 := Lib.hid hm.2
    obtain ⟨A7, c7, hv, hc, hcm, hl⟩ := hm.ls It.enc_len
    obtain ⟨m7, hmm⟩ : ∃ m, m = N1.length := ⟨_, rfl⟩
    rw [← hmm] at hv hc
    subst hv
    have L7 := Lib.hid hl
    have N7 := Lib.hid hmm
    have C7 := Lib.hid hc
    have D7 := Lib.hid hcm
    clear hm hl hmm hc hcm
    clear HA3 L6
    have S7 := Lib.hid (S6.out.trans (T7.out.mono S6.out.size))
    go_wp2_with fail
    (with_reducible refine (HW4.out w7 _ (Below.refl _ _) _ _ _ N7.out C7.out D7.out L7.out).mono ?_)
    rintro e w8 ⟨v, rfl, hm⟩
    have B8 := Lib.hid (B7.out.trans (hm.2.mono B7.out.size))
    have T8 := Lib.hid hm.2
    obtain ⟨A8, c8, hv, _, _, hl⟩ := hm.ls Sc.enc_len
    obtain ⟨m8, hmm⟩ : ∃ m, m = K2.length := ⟨_, rfl⟩
    rw [← hmm] at hv
    subst hv
    have L8 := Lib.hid hl
    have N8 := Lib.hid hmm
    clear hm hl hmm
    clear HW4
    have S8 := Lib.hid (S7.out.trans (T8.out.mono S7.out.size))
    go_wp2_with fail
    (with_reducible refine (HA4.out w7 _ T8.out _ _ _ N7.out C7.out D7.out L7.out _ _ _ N8.out L8.out).mono ?_)
    rintro e w9 ⟨v, rfl, hm⟩
    have B9 := Lib.hid (B8.out.trans (hm.2.mono B8.out.size))
    have T9 := Lib.hid hm.2
    obtain ⟨A9, c9, hv, hc, hcm, hl⟩ := hm.ls It.enc_len
    obtain ⟨m9, hmm⟩ : ∃ m, m = M2.length := ⟨_, rfl⟩
    rw [← hmm] at hv hc
    subst hv
    have L9 := Lib.hid hl
    have N9 := Lib.hid hmm
    have C9 := Lib.hid hc
    have D9 := Lib.hid hcm
    clear hm hl hmm hc hcm
    clear HA4
    have S9 := Lib.hid (S8.out.trans (T9.out.mono S8.out.size))
    go_wp2_with fail
    (with_reducible refine (HSM.out w5 w9 w9 S9.out (Below.refl _ _) _ _ _ _ _ _ N5.out N9.out L5.out L9.out).mono ?_)
    rintro e w10 ⟨rfl, hb10⟩
    have B10 := Lib.hid (B9.out.trans (hb10.mono B9.out.size))
    clear hb10 HSM
    go_wp2
    go_ret
    exact ⟨rfl, B10.out⟩
  · obtain ⟨x, hx⟩ : ∃ x, ec D I = x := ⟨_, rfl⟩
    rw [hx] at he
    have hw : wrE D I a s = x := by unfold wrE; rw [if_neg (by rw [hx]; exact he), hx]
    obtain ⟨E1, hE1⟩ : ∃ E, er (rt D && rc []) = E := ⟨_, rfl⟩
    obtain ⟨M1, hM1⟩ : ∃ M, (if rt D && rc [] then app D [] else []) = M := ⟨_, rfl⟩
    have l1 := app_len' D []
    rw [hM1, List.length_nil] at l1
    obtain ⟨E2, hE2⟩ : ∃ E, wrE M1 I b t = E := ⟨_, rfl⟩
    obtain ⟨C2, hC2⟩ : ∃ C, (if E2 = 0 then wrL (chs M1 I) I b t.data.toList else []) = C := ⟨_, rfl⟩
    have l2 : C2.length ≤ 1000 := by
      have h4 := wrL_len (chs M1 I) I t.data.toList.length t.data.toList b (Nat.le_refl _)
      rw [szl] at h4
      rw [← hC2]
      split
      · omega
      · simp
    obtain ⟨E3, hE3⟩ : ∃ E, er (rt M1 && rc C2) = E := ⟨_, rfl⟩
    obtain ⟨M2, hM2⟩ : ∃ M, (if rt M1 && rc C2 then app M1 C2 else []) = M := ⟨_, rfl⟩
    have HW1 := Lib.hid (fun (w1 : World) (hb : Below w.heap.size w w1) => Wr_named D I a hI (by omega) s (by omega) x ([] : List Ch) hw (if_neg he) A n c w.heap.size hn hc hcm (by omega) w1 hb.size (hD.below hb))
    have HA1 := Lib.hid (fun (w1 : World) (hb : Below w.heap.size w w1) m A' c' (hm : m = ([] : List Ch).length) (h : Ls Sc.enc 3 w1 w1.heap.size A' ([] : List Ch)) => Ap_named D ([] : List Ch) E1 M1 hE1 hM1 A A' n c m c' w.heap.size w1.heap.size hn hc hcm hm (by omega) (by rw [hm]; simp) w1 hb.size (Nat.le_refl _) (hD.below hb) h)
    have HW2 := Lib.hid (fun (w1 w2 : World) (hb : Below w1.heap.size w1 w2) m A' c' (hm : m = M1.length) (hc : m ≤ c') (hcm : c' ≤ maxLen) (h : Ls It.enc 2 w1 w1.heap.size A' M1) => Wr_named M1 I b hI (by omega) t (by omega) E2 C2 hE2 hC2 A' m c' w1.heap.size hm hc hcm (by omega) w2 hb.size (h.below hb))
    have HA2 := Lib.hid (fun (w1 w2 : World) (hb : Below w1.heap.size w1 w2) m A' c' (hm : m = M1.length) (hc : m ≤ c') (hcm : c' ≤ maxLen) (h : Ls It.enc 2 w1 w1.heap.size A' M1) m2 A2 c2 (hm2 : m2 = C2.length) (h2 : Ls Sc.enc 3 w2 w2.heap.size A2 C2) => Ap_named M1 C2 E3 M2 hE3 hM2 A' A2 m c' m2 c2 w1.heap.size w2.heap.size hm hc hcm hm2 (by omega) (by omega) w2 hb.size (Nat.le_refl _) (h.below hb) h2)
    have q0 := bne0 he
    clear hw hE1 hM1 l1 hE2 hC2 l2 hE3 hM2 hx he hn hc hcm hlen hD k6 k7 k8 k9 k10
    go_enter Tryz.func6, Tryz.ntmps6
    go_wp2_with fail
    (with_reducible refine (HL.out _).mono ?_)
    rintro e w1 ⟨rfl, hb1⟩
    have B1 := Lib.hid hb1
    clear hb1 HL
    go_wp2_with fail
    (with_reducible refine (HW1.out _ B1.out).mono ?_)
    rintro e w2 ⟨v, rfl, hm⟩
    have B2 := Lib.hid (B1.out.trans (hm.2.mono B1.out.size))
    have T2 := Lib.hid hm.2
    obtain ⟨A2, c2, hv, _, _, hl⟩ := hm.ls Sc.enc_len
    obtain ⟨m2, hmm⟩ : ∃ m, m = ([] : List Ch).length := ⟨_, rfl⟩
    rw [← hmm] at hv
    subst hv
    have L2 := Lib.hid hl
    have N2 := Lib.hid hmm
    clear hm hl hmm
    clear HW1
    go_wp2_with fail
    (with_reducible refine (HA1.out _ B2.out _ _ _ N2.out L2.out).mono ?_)
    rintro e w3 ⟨v, rfl, hm⟩
    have B3 := Lib.hid (B2.out.trans (hm.2.mono B2.out.size))
    have T3 := Lib.hid hm.2
    obtain ⟨A3, c3, hv, hc, hcm, hl⟩ := hm.ls It.enc_len
    obtain ⟨m3, hmm⟩ : ∃ m, m = M1.length := ⟨_, rfl⟩
    rw [← hmm] at hv hc
    subst hv
    have L3 := Lib.hid hl
    have N3 := Lib.hid hmm
    have C3 := Lib.hid hc
    have D3 := Lib.hid hcm
    clear hm hl hmm hc hcm
    clear HA1 T2
    go_wp2_with fail
    (with_reducible refine (HW2.out w3 _ (Below.refl _ _) _ _ _ N3.out C3.out D3.out L3.out).mono ?_)
    rintro e w4 ⟨v, rfl, hm⟩
    have B4 := Lib.hid (B3.out.trans (hm.2.mono B3.out.size))
    have T4 := Lib.hid hm.2
    obtain ⟨A4, c4, hv, _, _, hl⟩ := hm.ls Sc.enc_len
    obtain ⟨m4, hmm⟩ : ∃ m, m = C2.length := ⟨_, rfl⟩
    rw [← hmm] at hv
    subst hv
    have L4 := Lib.hid hl
    have N4 := Lib.hid hmm
    clear hm hl hmm
    clear HW2
    go_wp2_with fail
    (with_reducible refine (HA2.out w3 _ T4.out _ _ _ N3.out C3.out D3.out L3.out _ _ _ N4.out L4.out).mono ?_)
    rintro e w5 ⟨v, rfl, hm⟩
    have B5 := Lib.hid (B4.out.trans (hm.2.mono B4.out.size))
    have T5 := Lib.hid hm.2
    obtain ⟨A5, c5, hv, hc, hcm, hl⟩ := hm.ls It.enc_len
    obtain ⟨m5, hmm⟩ : ∃ m, m = M2.length := ⟨_, rfl⟩
    rw [← hmm] at hv hc
    subst hv
    have L5 := Lib.hid hl
    have N5 := Lib.hid hmm
    have C5 := Lib.hid hc
    have D5 := Lib.hid hcm
    clear hm hl hmm hc hcm
    clear HA2 T4 L3 L4
    go_wp2
    go_ret
    exact ⟨rfl, B5.out⟩
end Go.Proofs.YtcnggidihkcndaaGreatDoor.Da
