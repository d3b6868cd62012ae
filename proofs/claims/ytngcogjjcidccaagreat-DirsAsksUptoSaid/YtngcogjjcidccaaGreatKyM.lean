/- Plain mathematics of keys as bytes. No walk here. -/
import Derived.Test.YtngcogjjcidccaaGreatInM
namespace Go.Proofs.YtngcogjjcidccaaGreat.Ino
set_option linter.unusedVariables false
set_option linter.unusedSimpArgs false
open Pk (be num be_length num_be num_lt num_snoc bs bs_size nB nE numOk numOk_iff tN tR tE uN uOk uT uR uE xB xE nB_ok tN_back tR_back uT_back uR_back uE_back xB_size be_cons bs_append bytesLess_be bs_data bs_list)
open Ph (nm nb)
/-- a key, as plain data -/
structure Ky where
  K : Nat
  I : Nat
  N : ByteArray
  C : Nat
def Ky.lim (k : Ky) : Prop := k.K < 256 ∧ k.I < 4294967296 ∧ k.C < 4294967296
def zKy : Ky := ⟨0, 0, ByteArray.empty, 0⟩
def lt (K : Nat) : List UInt8 := if K = 1 then [105] else if K = 2 then [100] else if K = 3 then [99] else if K = 4 then [120] else []
def okK (k : Ky) : Bool :=
  decide (1 ≤ k.I) && (if k.K = 1 then decide (k.N.size = 0) && decide (k.C = 0)
    else if k.K = 2 ∨ k.K = 4 then nb k.N && decide (k.C = 0)
    else if k.K = 3 then decide (k.N.size = 0) && decide (k.C < 512) else false)
theorem okK_iff {k : Ky} : okK k = true ↔ 1 ≤ k.I ∧ ((k.K = 1 ∧ k.N.size = 0 ∧ k.C = 0) ∨ ((k.K = 2 ∨ k.K = 4) ∧ nb k.N = true ∧ k.C = 0) ∨ (k.K = 3 ∧ k.N.size = 0 ∧ k.C < 512)) := by
  unfold okK
  by_cases h1 : k.K = 1
  · simp [h1]
  · by_cases h2 : k.K = 2 ∨ k.K = 4
    · rw [if_neg h1, if_pos h2]
      have h3 : ¬ k.K = 3 := by omega
      simp [h1, h2, h3]
    · by_cases h3 : k.K = 3
      · simp [h3]
      · rw [if_neg h1, if_neg h2, if_neg h3]
        simp [h1, h2, h3]
def pfx (K I : Nat) : ByteArray := if lt K = [] then ByteArray.empty else bs (lt K) ++ bs (be 4 I)
def wrK (k : Ky) : ByteArray := if k.K = 3 then pfx k.K k.I ++ k.N ++ bs (be 4 k.C) else pfx k.K k.I ++ k.N
def kd (s : ByteArray) : Nat := match s.data.toList with
  | c :: _ => if c = 105 then 1 else if c = 100 then 2 else if c = 99 then 3 else if c = 120 then 4 else 0
  | [] => 0
def rs (s : ByteArray) : ByteArray := if kd s = 0 then s else s.extract 1 s.size
def tkK (s : ByteArray) : Ky := ⟨kd s, (tN (rs s) 4).toNat, if kd s = 2 ∨ kd s = 4 then tR (rs s) 4 else ByteArray.empty, if kd s = 3 then (tN (tR (rs s) 4) 4).toNat else 0⟩
def deK (s : ByteArray) : Ky := if okK (tkK s) = true ∧ wrK (tkK s) = s then tkK s else zKy
def deKE (s : ByteArray) : Int := if okK (tkK s) = true ∧ wrK (tkK s) = s then 0 else 4
theorem tkK_lim (s : ByteArray) : (tkK s).lim := by
  have h3 := tN4 (rs s)
  have h4 := tN4 (tR (rs s) 4)
  refine ⟨?_, ?_, ?_⟩
  · show kd s < 256
    unfold kd
    split
    · repeat' split
      all_goals omega
    · omega
  · simp only [tkK]; omega
  · simp only [tkK]
    split <;> omega
theorem kd_app {K : Nat} (h : lt K ≠ []) (r : ByteArray) : kd (bs (lt K) ++ r) = K ∧ rs (bs (lt K) ++ r) = r ∧ (lt K).length = 1 := by
  have key : ∀ c : UInt8, (bs [c] ++ r).data.toList = c :: r.data.toList := fun c => by rw [ByteArray.data_append, Array.toList_append]; rfl
  have cut : ∀ c : UInt8, (bs [c] ++ r).extract 1 (bs [c] ++ r).size = r := fun c => ByteArray.extract_append_eq_right (by rw [bs_size]; rfl) (by rw [ByteArray.size_append])
  have e : (K = 1 ∧ lt K = [105]) ∨ (K = 2 ∧ lt K = [100]) ∨ (K = 3 ∧ lt K = [99]) ∨ (K = 4 ∧ lt K = [120]) := by
    unfold lt at h ⊢
    by_cases h1 : K = 1
    · simp [h1]
    · by_cases h2 : K = 2
      · simp [h2]
      · by_cases h3 : K = 3
        · simp [h3]
        · by_cases h4 : K = 4
          · simp [h4]
          · simp [h1, h2, h3, h4] at h
  have go : ∀ c : UInt8, lt K = [c] → (kd (bs [c] ++ r) = K) → K ≠ 0 → kd (bs (lt K) ++ r) = K ∧ rs (bs (lt K) ++ r) = r ∧ (lt K).length = 1 := by
    intro c e hk h0
    rw [e]
    refine ⟨hk, ?_, rfl⟩
    unfold rs
    rw [hk, if_neg h0, cut]
  rcases e with ⟨rfl, e⟩ | ⟨rfl, e⟩ | ⟨rfl, e⟩ | ⟨rfl, e⟩
  · exact go 105 e (by unfold kd; rw [key]; rfl) (by omega)
  · exact go 100 e (by unfold kd; rw [key]; rfl) (by omega)
  · exact go 99 e (by unfold kd; rw [key]; rfl) (by omega)
  · exact go 120 e (by unfold kd; rw [key]; rfl) (by omega)
theorem lt_of {K : Nat} (h : 1 ≤ K) (h2 : K ≤ 4) : lt K ≠ [] := by
  rcases (show K = 1 ∨ K = 2 ∨ K = 3 ∨ K = 4 by omega) with rfl | rfl | rfl | rfl <;> decide
theorem okK_kind {k : Ky} (h : okK k = true) : 1 ≤ k.K ∧ k.K ≤ 4 := by
  rcases (okK_iff.1 h).2 with h | h | h <;> omega
theorem nb_size {s : ByteArray} (h : nb s = true) : 1 ≤ s.size ∧ s.size ≤ 24 := by
  have := Ph.nm_len h
  rw [Array.length_toList] at this
  exact this
theorem size0 {s : ByteArray} (h : s.size = 0) : s = ByteArray.empty := by
  apply ByteArray.ext
  exact Array.eq_empty_of_size_eq_zero h
theorem wrK_eq {k : Ky} (h : okK k = true) : wrK k = bs (lt k.K) ++ (bs (be 4 k.I) ++ (if k.K = 3 then bs (be 4 k.C) else k.N)) := by
  unfold wrK pfx
  obtain ⟨h1, h2⟩ := okK_kind h
  rw [if_neg (lt_of h1 h2)]
  by_cases h3 : k.K = 3
  · have hn : k.N.size = 0 := by rcases (okK_iff.1 h).2 with h | h | h <;> omega
    rw [if_pos h3, if_pos h3, size0 hn, append_none, ByteArray.append_assoc]
  · rw [if_neg h3, if_neg h3, ByteArray.append_assoc]
theorem tk_wrK {k : Ky} (hl : k.lim) (h : okK k = true) : tkK (wrK k) = k := by
  have hk := okK_kind h
  have e := wrK_eq h
  have hp := kd_app (lt_of hk.1 hk.2) (bs (be 4 k.I) ++ (if k.K = 3 then bs (be 4 k.C) else k.N))
  rw [← e] at hp
  have hn := num_back 4 k.I (by omega) (by omega) (by simpa using hl.2.1) (if k.K = 3 then bs (be 4 k.C) else k.N)
  have hc := num_back 4 k.C (by omega) (by omega) (by simpa using hl.2.2) ByteArray.empty
  rw [append_none] at hc
  unfold tkK
  rw [hp.1, hp.2.1, show tN (bs (be 4 k.I) ++ (if k.K = 3 then bs (be 4 k.C) else k.N)) 4 = _ from hn.1, show tR (bs (be 4 k.I) ++ (if k.K = 3 then bs (be 4 k.C) else k.N)) 4 = _ from hn.2]
  have hb := (okK_iff.1 h).2
  obtain ⟨K, I, N, C⟩ := k
  simp only at hb hc ⊢
  by_cases h3 : K = 3
  · have hn0 : N.size = 0 := by rcases hb with h | h | h <;> omega
    rw [if_pos h3, if_neg (by omega), if_pos h3, show tN (bs (be 4 C)) 4 = _ from hc.1, size0 hn0]
    simp
  · rw [if_neg h3, if_neg h3]
    have hc0 : C = 0 := by rcases hb with h | h | h <;> omega
    by_cases h24 : K = 2 ∨ K = 4
    · rw [if_pos h24, hc0]; simp
    · rw [if_neg h24, hc0]
      have hn0 : N.size = 0 := by rcases hb with h | h | h <;> omega
      rw [size0 hn0]; simp
theorem deK_back {k : Ky} (hl : k.lim) (hk : okK k = true) : deK (wrK k) = k ∧ deKE (wrK k) = 0 := by
  have e := tk_wrK hl hk
  unfold deK deKE
  rw [e, if_pos ⟨hk, rfl⟩, if_pos ⟨hk, rfl⟩]
  exact ⟨rfl, rfl⟩
theorem deK_ok {s : ByteArray} (h : deKE s = 0) : okK (deK s) = true ∧ wrK (deK s) = s ∧ (deK s).lim := by
  unfold deKE at h
  unfold deK
  by_cases hc : okK (tkK s) = true ∧ wrK (tkK s) = s
  · rw [if_pos hc]
    exact ⟨hc.1, hc.2, tkK_lim s⟩
  · rw [if_neg hc] at h; exact absurd h (by decide)
/-- how the document asks: its key has what is behind as its name -/
def rkN (s : ByteArray) : Ky := ⟨kd s, (tN (s.extract 1 s.size) 4).toNat, if kd s = 3 then ByteArray.empty else tR (s.extract 1 s.size) 4, if kd s = 3 then (tN (tR (s.extract 1 s.size) 4) 4).toNat else 0⟩
def rkB (s : ByteArray) : Prop := 5 ≤ s.size ∧ kd s ≠ 0 ∧ (kd s = 3 → tE (tR (s.extract 1 s.size) 4) 4 = 0 ∧ tR (tR (s.extract 1 s.size) 4) 4 = ByteArray.empty) ∧ okK (rkN s) = true
theorem head_cut {s : ByteArray} (h : kd s ≠ 0) : bs (lt (kd s)) ++ s.extract 1 s.size = s ∧ 1 ≤ s.size := by
  obtain ⟨c, r, hc⟩ : ∃ c r, s.data.toList = c :: r := by
    cases e : s.data.toList with
    | nil => unfold kd at h; rw [e] at h; exact absurd rfl h
    | cons c r => exact ⟨c, r, rfl⟩
  have hsz : s.size = r.length + 1 := by
    show s.data.size = _
    rw [← Array.length_toList, hc]; rfl
  refine ⟨?_, by omega⟩
  have hlt : lt (kd s) = [c] := by
    unfold kd at h ⊢
    rw [hc] at h ⊢
    simp only at h ⊢
    by_cases h1 : c = 105
    · rw [if_pos h1, h1]; rfl
    · rw [if_neg h1] at h ⊢
      by_cases h2 : c = 100
      · rw [if_pos h2, h2]; rfl
      · rw [if_neg h2] at h ⊢
        by_cases h3 : c = 99
        · rw [if_pos h3, h3]; rfl
        · rw [if_neg h3] at h ⊢
          by_cases h4 : c = 120
          · rw [if_pos h4, h4]; rfl
          · rw [if_neg h4] at h; exact absurd rfl h
  rw [hlt]
  apply ByteArray.ext
  rw [ByteArray.data_append, ByteArray.data_extract]
  apply Array.toList_inj.1
  rw [Array.toList_append, Array.toList_extract, List.extract_eq_take_drop, hc]
  show [c] ++ _ = _
  rw [hsz]
  simp
theorem kd_le (s : ByteArray) : kd s ≤ 4 := by
  unfold kd
  split
  · repeat' split
    all_goals omega
  · omega
theorem askK (s : ByteArray) : ((okK (tkK s) = true ∧ wrK (tkK s) = s) ↔ rkB s) ∧ (rkB s → rkN s = tkK s) := by
  have hle := kd_le s
  by_cases h0 : kd s = 0
  · have hno : ¬ okK (tkK s) = true := fun h => by
      have := (okK_kind h).1
      simp only [tkK] at this
      omega
    refine ⟨⟨fun h => absurd h.1 hno, fun h => absurd h0 h.2.1⟩, fun h => absurd h0 h.2.1⟩
  · obtain ⟨hs, hs1⟩ := head_cut h0
    have hrs : rs s = s.extract 1 s.size := by unfold rs; rw [if_neg h0]
    have hsz : (s.extract 1 s.size).size = s.size - 1 := by rw [ByteArray.size_extract]; omega
    obtain ⟨r, hr⟩ : ∃ r, s.extract 1 s.size = r := ⟨_, rfl⟩
    rw [hr] at hs hrs hsz
    have fwd : ∀ hb : rkB s, rkN s = tkK s := by
      rintro ⟨h5, _, h3, hk⟩
      rw [hr] at h3
      have hb := (okK_iff.1 hk).2
      unfold rkN at hb ⊢
      unfold tkK
      rw [hr] at hb ⊢
      rw [hrs]
      simp only at hb
      by_cases k3 : kd s = 3
      · rw [if_pos k3, if_pos k3, if_neg (by omega)]
      · rw [if_neg k3, if_neg k3] at hb ⊢
        by_cases k24 : kd s = 2 ∨ kd s = 4
        · rw [if_pos k24]
        · rw [if_neg k24]
          have : (tR r 4).size = 0 := by rcases hb with h | h | h <;> omega
          rw [size0 this]
    refine ⟨⟨?_, ?_⟩, fwd⟩
    · rintro ⟨hk, hw⟩
      have hw2 := wrK_eq hk
      rw [hw] at hw2
      have hK : (tkK s).K = kd s := rfl
      have hI : (tkK s).I = (tN r 4).toNat := by simp only [tkK, hrs]
      rw [hK] at hw2
      have hz := congrArg ByteArray.size hw2
      have hl1 := (kd_app (lt_of (by omega) hle) ByteArray.empty).2.2
      simp only [ByteArray.size_append, bs_size, be_length, hl1] at hz
      have h5 : 5 ≤ s.size := by omega
      have hr2 : r = bs (be 4 (tkK s).I) ++ (if kd s = 3 then bs (be 4 (tkK s).C) else (tkK s).N) := by
        have e1 := wrK_eq hk
        rw [hw, hK] at e1
        have e2 := (kd_app (lt_of (by omega) hle) (bs (be 4 (tkK s).I) ++ (if kd s = 3 then bs (be 4 (tkK s).C) else (tkK s).N))).2.1
        rw [← e1, hrs] at e2
        exact e2
      have hrr : tR r 4 = (if kd s = 3 then bs (be 4 (tkK s).C) else (tkK s).N) := by
        have := (num_back 4 (tkK s).I (by omega) (by omega) (by simpa using (tkK_lim s).2.1) (if kd s = 3 then bs (be 4 (tkK s).C) else (tkK s).N)).2
        rw [← hr2] at this
        exact this
      have h3 : kd s = 3 → tE (tR (s.extract 1 s.size) 4) 4 = 0 ∧ tR (tR (s.extract 1 s.size) 4) 4 = ByteArray.empty := by
        intro k3
        rw [hr, hrr, if_pos k3]
        have a := num_back 4 (tkK s).C (by omega) (by omega) (by simpa using (tkK_lim s).2.2) ByteArray.empty
        rw [append_none] at a
        refine ⟨?_, a.2⟩
        unfold tE
        rw [if_pos (by decide), if_pos (by rw [bs_size, be_length]; decide)]
      have he : rkN s = tkK s := by
        unfold rkN
        rw [hr]
        have hb := (okK_iff.1 hk).2
        rw [hK] at hb
        unfold tkK at hb hrr ⊢
        rw [hrs] at hb hrr ⊢
        simp only at hb hrr
        by_cases k3 : kd s = 3
        · rw [if_pos k3, if_pos k3, if_neg (by omega)]
        · rw [if_neg k3, if_neg k3]
          rw [if_neg k3] at hrr
          rw [← hrr]
      exact ⟨h5, h0, h3, by rw [he]; exact hk⟩
    · intro hb
      have he := fwd hb
      obtain ⟨h5, _, h3, hk⟩ := hb
      rw [he] at hk
      refine ⟨hk, ?_⟩
      rw [wrK_eq hk]
      have e1 := whole_cut r 4 (by omega) (by omega) (by omega)
      have hK : (tkK s).K = kd s := rfl
      have hI : (tkK s).I = (tN r 4).toNat := by simp only [tkK, hrs]
      rw [hK, hI]
      have tail : (if kd s = 3 then bs (be 4 (tkK s).C) else (tkK s).N) = tR r 4 := by
        by_cases k3 : kd s = 3
        · rw [if_pos k3]
          rw [hr] at h3
          obtain ⟨h31, h32⟩ := h3 k3
          have hsz4 : 4 ≤ (tR r 4).size := by
            rcases Nat.lt_or_ge (tR r 4).size 4 with h | h
            · unfold tE at h31
              rw [if_pos (by decide), if_neg (by simp; omega)] at h31
              exact absurd h31 (by decide)
            · exact h
          have e2 := whole_cut (tR r 4) 4 (by omega) (by omega) hsz4
          rw [show tR (tR r 4) ((4 : Nat) : Int) = ByteArray.empty from h32, append_none] at e2
          have hC : (tkK s).C = (tN (tR r 4) 4).toNat := by simp only [tkK, hrs, if_pos k3]
          rw [hC]
          exact e2
        · rw [if_neg k3]
          have := congrArg Ky.N he
          simp only [rkN, if_neg k3, hr] at this
          exact this.symm
      rw [tail]
      rw [show bs (be 4 (tN r 4).toNat) ++ tR r 4 = r from e1]
      exact hs
theorem pfx_ok {k : Ky} (h : okK k = true) : pfx k.K k.I = bs (lt k.K) ++ bs (be 4 k.I) ∧ (pfx k.K k.I).size = 5 := by
  obtain ⟨h1, h2⟩ := okK_kind h
  unfold pfx
  rw [if_neg (lt_of h1 h2)]
  refine ⟨rfl, ?_⟩
  rw [ByteArray.size_append, bs_size, bs_size, be_length, (kd_app (lt_of h1 h2) ByteArray.empty).2.2]
theorem wrK_pfx {k : Ky} (h : okK k = true) : wrK k = pfx k.K k.I ++ (if k.K = 3 then bs (be 4 k.C) else k.N) ∧ (wrK k).extract 0 5 = pfx k.K k.I ∧ 5 ≤ (wrK k).size ∧ (wrK k).size ≤ 29 := by
  obtain ⟨e, hz⟩ := pfx_ok h
  have e2 := wrK_eq h
  rw [← ByteArray.append_assoc, ← e] at e2
  refine ⟨e2, ?_, ?_, ?_⟩
  · rw [e2]
    exact ByteArray.extract_append_eq_left hz.symm
  · rw [e2, ByteArray.size_append, hz]; omega
  · rw [e2, ByteArray.size_append, hz]
    by_cases h3 : k.K = 3
    · rw [if_pos h3, bs_size, be_length]; omega
    · rw [if_neg h3]
      rcases (okK_iff.1 h).2 with h | h | h
      · omega
      · have := nb_size h.2.1; omega
      · omega
theorem wrK_inj {a b : Ky} (la : a.lim) (lb : b.lim) (ha : okK a = true) (hb : okK b = true) (h : wrK a = wrK b) : a = b := by
  have e1 := tk_wrK la ha
  have e2 := tk_wrK lb hb
  rw [h] at e1
  exact e1.symm.trans e2
theorem pfx_inj {a b : Ky} (la : a.lim) (lb : b.lim) (ha : okK a = true) (hb : okK b = true) (h : pfx a.K a.I = pfx b.K b.I) : a.K = b.K ∧ a.I = b.I := by
  have ka := okK_kind ha
  have kb := okK_kind hb
  have e1 := kd_app (lt_of ka.1 ka.2) (bs (be 4 a.I))
  have e2 := kd_app (lt_of kb.1 kb.2) (bs (be 4 b.I))
  rw [← (pfx_ok ha).1] at e1
  rw [← (pfx_ok hb).1] at e2
  rw [h] at e1
  refine ⟨e1.1.symm.trans e2.1, ?_⟩
  have h4 : bs (be 4 a.I) = bs (be 4 b.I) := e1.2.1.symm.trans e2.2.1
  have h5 : be 4 a.I = be 4 b.I := by
    have := congrArg (fun s : ByteArray => s.data.toList) h4
    exact this
  have h6 := congrArg num h5
  rw [num_be _ _ (by simpa using la.2.1), num_be _ _ (by simpa using lb.2.1)] at h6
  exact h6
end Go.Proofs.YtngcogjjcidccaaGreat.Ino
