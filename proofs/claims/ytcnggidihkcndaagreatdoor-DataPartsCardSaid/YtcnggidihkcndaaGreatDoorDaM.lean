/- Plain mathematics of files' bytes as chunks that a volume keeps. No walk here. -/
import Derived.Test.YtcnggidihkcndaaGreatDoorItN
import Derived.Test.YtcnggidihkcndaaGreatDoorKyM
namespace Go.Proofs.YtcnggidihkcndaaGreatDoor.Da
set_option linter.unusedVariables false
set_option linter.unusedSimpArgs false
open It (Itm Ch key ckey get app und pre UpK rt rc)
open Ino (Ky okK okK_iff wrK wrK_inj pfx deK deKE deK_back deK_ok wrK_pfx pfx_inj pfx_ok)
/-- the key of an inode's chunk -/
def kyC (I k : Nat) : Ky := ⟨3, I, ByteArray.empty, k⟩
def cky (I k : Nat) : ByteArray := wrK (kyC I k)
theorem kyC_ok {I k : Nat} (h : 1 ≤ I) (hk : k < 512) : okK (kyC I k) = true := okK_iff.2 ⟨h, .inr (.inr ⟨rfl, rfl, hk⟩)⟩
theorem kyC_lim {I k : Nat} (h : I < 4294967296) (hk : k < 512) : (kyC I k).lim := ⟨by show 3 < 256; omega, h, by show k < 4294967296; omega⟩
theorem cky_inj {I J k l : Nat} (hI : 1 ≤ I) (hI2 : I < 4294967296) (hJ : 1 ≤ J) (hJ2 : J < 4294967296) (hk : k < 512) (hl : l < 512) (h : cky I k = cky J l) : I = J ∧ k = l := by
  have := wrK_inj (kyC_lim hI2 hk) (kyC_lim hJ2 hl) (kyC_ok hI hk) (kyC_ok hJ hl) h
  unfold kyC at this
  simp only [Ky.mk.injEq] at this
  exact ⟨this.2.1, this.2.2.2⟩
theorem cky_parse {I k : Nat} (hI : 1 ≤ I) (hI2 : I < 4294967296) (hk : k < 512) : deK (cky I k) = kyC I k ∧ deKE (cky I k) = 0 := deK_back (kyC_lim hI2 hk) (kyC_ok hI hk)
/-- a chunk -/
structure Ck where
  n : Nat
  k : ByteArray
  h : Bool
  v : ByteArray
/-- the items under an inode's prefix that are chunks -/
def ckOf (x : Itm) : Option Ck := if deKE x.k = 0 then some ⟨(deK x.k).C, x.k, true, x.v⟩ else none
def chs (D : List Itm) (I : Nat) : List Ck := (und D (pfx 3 I)).filterMap ckOf
theorem pre_iff {p : ByteArray} {x : Itm} : pre p x = true ↔ ∃ r, x.k.data.toList = p.data.toList ++ r := by
  unfold pre key
  rw [List.isPrefixOf_iff_prefix]
  exact ⟨fun ⟨r, h⟩ => ⟨r, h.symm⟩, fun ⟨r, h⟩ => ⟨r, h.symm⟩⟩
theorem cky_pre {I k : Nat} (hI : 1 ≤ I) (hk : k < 512) : ∃ r, (cky I k).data.toList = (pfx 3 I).data.toList ++ r := by
  obtain ⟨h, _⟩ := wrK_pfx (kyC_ok hI hk)
  unfold cky
  rw [h]
  exact ⟨_, by rw [ByteArray.data_append, Array.toList_append]; rfl⟩
theorem ck_key {I : Nat} (hI : 1 ≤ I) (hI2 : I < 4294967296) {x : Itm} (hp : pre (pfx 3 I) x = true) (hk : deKE x.k = 0) : ∃ k, k < 512 ∧ x.k = cky I k ∧ (deK x.k).C = k := by
  obtain ⟨h1, h2, h3⟩ := deK_ok hk
  obtain ⟨p1, p2, p3, p4⟩ := wrK_pfx h1
  obtain ⟨q1, q2⟩ := pfx_ok (kyC_ok hI (show (0 : Nat) < 512 by omega))
  obtain ⟨q3, q4⟩ := pfx_ok h1
  obtain ⟨r, hr⟩ := pre_iff.1 hp
  have e5 : (deK x.k).K = 3 ∧ (deK x.k).I = I := by
    have e1 : pfx (deK x.k).K (deK x.k).I = pfx 3 I := by
      rw [← p2, h2]
      apply ByteArray.ext
      apply Array.toList_inj.1
      rw [ByteArray.data_extract, Array.toList_extract, List.extract_eq_take_drop, hr]
      have hz : (pfx 3 I).data.toList.length = 5 := by rw [Array.length_toList]; exact q2
      rw [List.drop_zero, Nat.sub_zero, List.take_append_of_le_length (by omega), List.take_of_length_le (by omega)]
    exact pfx_inj (a := deK x.k) (b := kyC I 0) h3 (kyC_lim hI2 (by omega)) h1 (kyC_ok hI (by omega)) e1
  obtain ⟨e6, e7⟩ := e5
  obtain ⟨_, h4⟩ := okK_iff.1 h1
  have hN : (deK x.k).N.size = 0 ∧ (deK x.k).C < 512 := by
    rcases h4 with ⟨a, _⟩ | ⟨a, _⟩ | ⟨_, b, c⟩
    · omega
    · omega
    · exact ⟨b, c⟩
  have hNe := Ino.size0 hN.1
  refine ⟨(deK x.k).C, hN.2, ?_, rfl⟩
  have : deK x.k = kyC I (deK x.k).C := by
    have : deK x.k = ⟨(deK x.k).K, (deK x.k).I, (deK x.k).N, (deK x.k).C⟩ := rfl
    rw [this, e6, e7, hNe]
    rfl
  unfold cky
  rw [← this, h2]
theorem mem_chs {D : List Itm} {I : Nat} (hI : 1 ≤ I) (hI2 : I < 4294967296) (c : Ck) : c ∈ chs D I ↔ ∃ k v, k < 512 ∧ (⟨cky I k, v⟩ : Itm) ∈ D ∧ c = ⟨k, cky I k, true, v⟩ := by
  unfold chs und ckOf
  rw [List.mem_filterMap]
  constructor
  · rintro ⟨x, hx, hc⟩
    obtain ⟨hD, hp⟩ := List.mem_filter.1 hx
    split at hc
    · rename_i hk
      obtain ⟨k, h1, h2, h3⟩ := ck_key hI hI2 hp hk
      refine ⟨k, x.v, h1, ?_, ?_⟩
      · rw [← h2]; exact hD
      · rw [← Option.some.inj hc, h3, h2]
    · cases hc
  · rintro ⟨k, v, hk, hD, rfl⟩
    refine ⟨⟨cky I k, v⟩, List.mem_filter.2 ⟨hD, pre_iff.2 (cky_pre hI hk)⟩, ?_⟩
    obtain ⟨p1, p2⟩ := cky_parse hI hI2 hk
    show (if deKE (cky I k) = 0 then _ else none) = _
    rw [if_pos p2]
    show some (Ck.mk (deK (cky I k)).C _ _ _) = _
    rw [p1]
    rfl
/-- the byte at a place of an inode's -/
def bt (D : List Itm) (I p : Nat) : UInt8 := match get D (cky I (p / 128)) with
  | some v => ((v.data.toList.take 128)[p % 128]?).getD 0
  | none => 0
/-- bytes that are read -/
def rdL (D : List Itm) (I a e : Nat) : List UInt8 := (List.range (e - a)).map fun j => bt D I (a + j)
theorem rdL_len (D : List Itm) (I a e : Nat) : (rdL D I a e).length = e - a := by unfold rdL; rw [List.length_map, List.length_range]
theorem rdL_get (D : List Itm) (I a e j : Nat) (h : j < e - a) : (rdL D I a e)[j]? = some (bt D I (a + j)) := by
  unfold rdL
  rw [List.getElem?_map, List.getElem?_range h]
  rfl
/-- bytes read in two parts -/
theorem rdL_two (D : List Itm) (I a m e : Nat) (h1 : a ≤ m) (h2 : m ≤ e) : rdL D I a m ++ rdL D I m e = rdL D I a e := by
  apply List.ext_getElem?
  intro j
  by_cases hj : j < m - a
  · rw [List.getElem?_append_left (by rw [rdL_len]; exact hj), rdL_get _ _ _ _ _ hj, rdL_get _ _ _ _ _ (by omega)]
  · rw [List.getElem?_append_right (by rw [rdL_len]; omega), rdL_len]
    by_cases hj2 : j < e - a
    · rw [rdL_get _ _ _ _ _ (by omega), rdL_get _ _ _ _ _ hj2, show m + (j - (m - a)) = a + j by omega]
    · rw [List.getElem?_eq_none (by rw [rdL_len]; omega), List.getElem?_eq_none (by rw [rdL_len]; omega)]
end Go.Proofs.YtcnggidihkcndaaGreatDoor.Da
