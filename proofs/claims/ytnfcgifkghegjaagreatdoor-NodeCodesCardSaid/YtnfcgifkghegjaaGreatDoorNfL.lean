/- The document's Bag, good or bad, as the mathematics of taking. -/
import Derived.Test.YtnfcgifkghegjaaGreatDoorNfG
namespace Go.Proofs.YtnfcgifkghegjaaGreatDoor.Nr
set_option linter.unusedVariables false
set_option linter.unusedSimpArgs false
open Go.ChangeShapes Go.WideShapes Go.ChangeAt Go.RowKit
open Nd Ar
open Pk (be num num_lt be_length u8s u8s_length tN tR tE)
/-- the bag in block q has what is left, or it is bad -/
def BagR (w : World) (q : Nat) (s : S) : Prop := ∃ S, BagAt w q S s.2 ∧ S.size ≤ 512 ∧ (s.2 = false → S.data.toList = s.1)
theorem BagR.below {w w' : World} {q : Nat} {s : S} (h : BagR w q s) (hb : Below w.heap.size w w') : BagR w' q s := by
  obtain ⟨S, h1, h2, h3⟩ := h
  exact ⟨S, h1.below hb, h2, h3⟩
theorem some_R (s : S) (n q : Nat) (hn : n ≤ 1000) (w : World) (h : BagR w q s) :
    Calls Tryz.prog 75 #[.pointer (some ⟨q, 0, none⟩), .int .i64 n] w fun e w' => ∃ X : ByteArray, e = .returned (.string X) ∧ X.size = n ∧ ((tkBytes n s).2.2 = false → X.data.toList = (tkBytes n s).1) ∧ BagR w' q (tkBytes n s).2 ∧ w.grownBy w' (some q) := by
  obtain ⟨S, h1, h2, h3⟩ := h
  obtain ⟨L, f⟩ := s
  dsimp only at h1 h3
  have hzz : (bs (List.replicate n 0)).size = n := by rw [bs_size, List.length_replicate]
  cases f
  · have he := h3 rfl
    have hl : L.length = S.size := by rw [← he, Array.length_toList]; rfl
    by_cases hlt : S.size < n
    · have ht : tkBytes n (L, false) = ([], ([], true)) := by unfold tkBytes; rw [if_pos (by show L.length < n; omega)]
      rw [ht]
      exact (some_bad S n q false (.inr hlt) (by omega) w h1).mono fun e w' hh => ⟨_, hh.1, hzz, fun h => (by cases h), ⟨S, hh.2.1, h2, fun h => (by cases h)⟩, hh.2.2⟩
    · have ht : tkBytes n (L, false) = (L.take n, (L.drop n, false)) := by unfold tkBytes; rw [if_neg (by show ¬ L.length < n; omega)]
      rw [ht]
      refine (some_good S n q (by omega) (by omega) w h1).mono fun e w' hh => ⟨_, hh.1, by simp; omega, fun _ => ?_, ⟨_, hh.2.1, by simp; omega, fun _ => ?_⟩, hh.2.2⟩
      · rw [ByteArray.data_extract, Array.toList_extract, List.extract_eq_take_drop, ← he]; simp
      · rw [extract_bs, bs_data, he]
  · have ht : (tkBytes n (L, true)).2.2 = true := by unfold tkBytes; split <;> rfl
    refine (some_bad S n q true (.inl rfl) (by omega) w h1).mono fun e w' hh => ⟨_, hh.1, hzz, fun h => ?_, ⟨S, ?_, h2, fun h => ?_⟩, hh.2.2⟩
    · rw [ht] at h; cases h
    · rw [ht]; exact hh.2.1
    · rw [ht] at h; cases h
theorem num_R (s : S) (k : Nat) : (tkNum k s).2 = (tkBytes k s).2 ∧ ((tkBytes k s).2.2 = false → (tkNum k s).1 = num (tkBytes k s).1) := by
  unfold tkNum tkBytes
  by_cases h : k ≤ s.1.length
  · rw [if_pos h, if_neg (by omega)]; exact ⟨rfl, fun _ => rfl⟩
  · rw [if_neg h, if_pos (by omega)]; exact ⟨rfl, fun h => (by cases h)⟩
theorem number_R (s : S) (k q : Nat) (h1 : 1 ≤ k) (h2 : k ≤ 8) (w : World) (h : BagR w q s) :
    Calls Tryz.prog 48 #[.pointer (some ⟨q, 0, none⟩), .int .i64 k] w fun e w' => ∃ v : Nat, e = .returned (.int .u64 v) ∧ v < 256 ^ k ∧ ((tkNum k s).2.2 = false → v = (tkNum k s).1) ∧ BagR w' q (tkNum k s).2 ∧ w.grownBy w' (some q) := by
  have HS := Lib.hid (some_R s k q (by omega) w h)
  obtain ⟨e1, e2⟩ := num_R s k
  have HE := Lib.hid (And.intro e1 e2)
  have hk9 : k ≤ 8 := h2
  have hk1 : 1 ≤ k := h1
  clear h h1 h2 e1 e2
  go_enter Tryz.func48, Tryz.ntmps48
  go_wp2_with fail
  refine HS.out.mono ?_
  rintro e w1 ⟨X, rfl, hz, hX, hB, hg⟩
  have HT := Lib.hid (Pk.ref_take_any X k w1 (by unfold maxLen; omega))
  have hlx : X.data.toList.length = k := by rw [Array.length_toList]; exact hz
  have hV : tN X (k : Int) = (num X.data.toList : Nat) := by
    unfold tN
    rw [if_pos ⟨by omega, by omega, by rw [Int.toNat_natCast, hz]; exact Nat.le_refl _⟩, Int.toNat_natCast, List.take_of_length_le (by omega)]
  have HL := Lib.hid (show num X.data.toList < 256 ^ k by have := num_lt X.data.toList; rwa [hlx] at this)
  have HX := Lib.hid (show (tkNum k s).2.2 = false → num X.data.toList = (tkNum k s).1 from fun h => by rw [HE.out.1] at h; rw [HE.out.2 h, hX h])
  have HB := Lib.hid (show BagR w1 q (tkNum k s).2 by rw [HE.out.1]; exact hB)
  have HG := Lib.hid hg
  rw [hV] at HT
  generalize num X.data.toList = v at *
  clear hz hX hB hg hlx hV HS
  go_wp2_with fail
  refine HT.out.mono ?_
  rintro e w2 ⟨rfl, hb⟩
  have HB2 := Lib.hid (HB.out.below hb)
  have HG2 := Lib.hid (grown_trans HG.out (grown_of_below hb _))
  clear hb HB HG HT
  go_wp2
  go_ret
  exact ⟨v, rfl, HL.out, HX.out, HB2.out, HG2.out⟩
/-- a text is taken -/
theorem text_R (s : S) (q : Nat) (w : World) (h : BagR w q s) :
    Calls Tryz.prog 49 #[.pointer (some ⟨q, 0, none⟩)] w fun e w' => ∃ X : ByteArray, e = .returned (.string X) ∧ X.size < 256 ∧ ((tkTxt s).2.2 = false → X.data.toList = (tkTxt s).1) ∧ BagR w' q (tkTxt s).2 ∧ w.grownBy w' (some q) := by
  have HN := Lib.hid (number_R s 1 q (by omega) (by omega) w h)
  clear h
  go_enter Tryz.func49, Tryz.ntmps49
  go_wp2_with fail
  refine HN.out.mono ?_
  rintro e w1 ⟨v, rfl, hlt, hv, hB, hg⟩
  have hlt' : v < 256 := hlt
  have hu : IntKind.i64.wrap (v : Int) = v := IntWalk.i64_in _ ⟨by omega, by omega⟩
  have HS := Lib.hid (some_R (tkNum 1 s).2 v q (by omega) w1 hB)
  have HG := Lib.hid hg
  have stay : (tkNum 1 s).2.2 = true → (tkTxt s).2.2 = true := fun h => by
    unfold tkTxt tkBytes
    split
    · rfl
    · exact h
  have HT := Lib.hid (show ∀ w' : World, (BagR w' q (tkBytes v (tkNum 1 s).2).2 → BagR w' q (tkTxt s).2) from fun w' hb => by
    cases hf : (tkNum 1 s).2.2 with
    | false => unfold tkTxt; rw [← hv hf]; exact hb
    | true =>
      have hb2 : (tkBytes v (tkNum 1 s).2).2.2 = true := by
        unfold tkBytes
        split
        · rfl
        · exact hf
      obtain ⟨S, h1, h2, h3⟩ := hb
      refine ⟨S, ?_, h2, fun h => ?_⟩
      · rw [stay hf]; rw [hb2] at h1; exact h1
      · rw [stay hf] at h; cases h)
  have HX := Lib.hid (show ∀ X : ByteArray, ((tkBytes v (tkNum 1 s).2).2.2 = false → X.data.toList = (tkBytes v (tkNum 1 s).2).1) → (tkTxt s).2.2 = false → X.data.toList = (tkTxt s).1 from fun X hX h => by
    cases hf : (tkNum 1 s).2.2 with
    | false => unfold tkTxt at h ⊢; rw [← hv hf] at h ⊢; exact hX h
    | true => rw [stay hf] at h; cases h)
  have HV := Lib.hid hlt'
  clear hlt hv hB hg stay HN
  go_wp2_with fail
  refine HS.out.mono ?_
  rintro e w2 ⟨X, rfl, hz, hX, hB, hg⟩
  have HX2 := Lib.hid (HX.out X hX)
  have HB2 := Lib.hid (HT.out w2 hB)
  have HG2 := Lib.hid (grown_trans HG.out hg)
  have HZ := Lib.hid (show X.size < 256 by rw [hz]; exact HV.out)
  clear hz hX hB hg HS HG
  go_wp2
  go_ret
  exact ⟨X, rfl, HZ.out, HX2.out, HB2.out, HG2.out⟩
end Go.Proofs.YtnfcgifkghegjaaGreatDoor.Nr
