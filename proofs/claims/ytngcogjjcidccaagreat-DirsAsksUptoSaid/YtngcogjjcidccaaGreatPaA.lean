/- Contracts of names: the code's and the document's. -/
import Derived.Test.YtngcogjjcidccaaGreatLs
import Derived.Test.YtngcogjjcidccaaGreatPhM
import Derived.Test.YtngcogjjcidccaaGreatRows
import Derived.WalkKit
import Derived.ProofKit
import Derived.Handy
import Derived.BigQuiet
import Derived.Deep.QuietTactic
import Derived.RegionTactic
import Derived.Outline
import Derived.WalkLawsBesides
import Derived.WalkSpells
import Derived.Lib.Hide
import Derived.Laws.IdiomStrings
namespace Go.Proofs.YtngcogjjcidccaaGreat.Ph
set_option linter.unusedVariables false
open Go.ChangeShapes Go.WideShapes Go.ChangeAt Go.RowKit
open BigFrame
/-- a list of names lies so -/
def en1 (s : ByteArray) : List Value := [.string s]
theorem en1_len (s : ByteArray) : (en1 s).length = 1 := rfl
theorem en1_one (s : ByteArray) : ∀ u ∈ en1 s, u.oneCell' = true := by
  intro u hu
  simp [en1] at hu
  subst hu; rfl
theorem one_cell {w : World} {B : Nat} {A : Option Addr} {D : List ByteArray} (h : Ar.Ls en1 1 w B A D) {i : Nat} {x : ByteArray} (hx : D[i]? = some x) : ∃ b o, A = some ⟨b, o, none⟩ ∧ b < B ∧ w.cell? ⟨b, o + i, none⟩ = some (.string x) := by
  obtain ⟨b, o, h1, h2, h3⟩ := h i x hx
  refine ⟨b, o, h1, h2, ?_⟩
  have := h3 0 (.string x) rfl
  rw [Nat.mul_one, Nat.add_zero] at this
  exact this
def has (s : ByteArray) (c : UInt8) : Bool := s.data.toList.contains c
theorem tl (s : ByteArray) : s.toList = s.data.toList := by rw [ByteArray.toList_eq]
theorem nb_eq (s : ByteArray) : nb s = (!s.toList.isEmpty && decide (s.toList.length ≤ 24) && !(s.toList == [46]) && !(s.toList == [46, 46]) && !has s 47 && !has s 0) := by
  unfold nb nm has; rw [tl]
theorem tl_len (s : ByteArray) : s.toList.length = s.size := by rw [tl, Array.length_toList]; rfl
theorem name_any (s : ByteArray) (w : World)
    (HC : ∀ c w, Calls Tryz.prog 79 #[.string s, .string ⟨#[c]⟩] w fun e w' => e = .returned (.bool (has s c)) ∧ w = w') :
    Calls Tryz.prog 63 #[.string s] w fun e w' => e = .returned (.bool (nb s)) ∧ w = w' := by
  have hn := nb_eq s
  rw [tl_len] at hn
  have H1 := Lib.hid (HC 47)
  have H2 := Lib.hid (HC 0)
  clear HC
  by_cases h1 : s.toList = []
  · have e1 : s.toList.isEmpty = true := by rw [h1]; rfl
    have HN := Lib.hid (show nb s = false by rw [hn, e1]; rfl)
    clear hn
    go_enter Tryz.func63, Tryz.ntmps63
    go_wp2
    go_ret
    exact ⟨by rw [HN.out]; rfl, rfl⟩
  · have e1 : s.toList.isEmpty = false := by cases h : s.toList with | nil => exact absurd h h1 | cons a l => rfl
    by_cases h2 : s.size ≤ 24
    · have d2 : decide (24 < (s.size : Int)) = false := by simp; omega
      by_cases h3 : s.toList = [46]
      · have e3 : (s.toList == [46]) = true := by rw [h3]; rfl
        have HN := Lib.hid (show nb s = false by rw [hn, e3]; simp)
        clear hn
        go_enter Tryz.func63, Tryz.ntmps63
        go_wp2
        go_ret
        exact ⟨by rw [HN.out]; rfl, rfl⟩
      · have e3 : (s.toList == [46]) = false := by simpa using h3
        by_cases h4 : s.toList = [46, 46]
        · have e4 : (s.toList == [46, 46]) = true := by rw [h4]; rfl
          have HN := Lib.hid (show nb s = false by rw [hn, e4]; simp)
          clear hn h4
          go_enter Tryz.func63, Tryz.ntmps63
          go_wp2
          go_ret
          exact ⟨by rw [HN.out]; rfl, rfl⟩
        · have e4 : (s.toList == [46, 46]) = false := by simpa using h4
          cases h5 : has s 47
          · cases h6 : has s 0
            all_goals
              have HN := Lib.hid (show nb s = _ by rw [hn, e1, e3, e4, h5, h6, decide_eq_true h2])
              rw [h5] at H1
              rw [h6] at H2
              clear hn h5 h6
              go_enter Tryz.func63, Tryz.ntmps63
              go_wp2_with (go_at_call 79; first | ((with_reducible refine (H1.out _).mono ?_); rintro e w' ⟨rfl, rfl⟩) | ((with_reducible refine (H2.out _).mono ?_); rintro e w' ⟨rfl, rfl⟩))
              go_ret
              exact ⟨by rw [HN.out]; rfl, rfl⟩
          · have HN := Lib.hid (show nb s = false by rw [hn, h5]; simp)
            rw [h5] at H1
            clear hn h5
            go_enter Tryz.func63, Tryz.ntmps63
            go_wp2_with (go_at_call 79; refine (H1.out _).mono ?_; rintro e w' ⟨rfl, rfl⟩)
            go_ret
            exact ⟨by rw [HN.out]; rfl, rfl⟩
    · have d2 : decide (24 < (s.size : Int)) = true := by simp; omega
      have HN := Lib.hid (show nb s = false by rw [hn, decide_eq_false h2]; simp)
      clear hn
      go_enter Tryz.func63, Tryz.ntmps63
      go_wp2
      go_ret
      exact ⟨by rw [HN.out]; rfl, rfl⟩
theorem has_iff {s : ByteArray} {c : UInt8} : has s c = true ↔ c ∈ s.data.toList := by unfold has; simp
theorem has_take {s : ByteArray} {c : UInt8} {i : Nat} (h : i < s.size) : (s.data.toList.take (i + 1)).contains c = ((s.data.toList.take i).contains c || (s[i] == c)) := by
  rw [List.take_succ_eq_append_getElem (by simpa using h), List.contains_eq_any_beq, List.contains_eq_any_beq, List.any_append]
  simp only [List.any_cons, List.any_nil, Bool.or_false]
  congr 1
  rw [Bool.eq_iff_iff, beq_iff_eq, beq_iff_eq]
  exact ⟨fun h => h.symm, fun h => h.symm⟩
theorem byte_ne {b c : UInt8} (h : (b == c) = false) : ((b.toNat : Int) == (c.toNat : Int)) = false := by
  rw [beq_eq_false_iff_ne] at h ⊢
  intro e
  apply h
  apply UInt8.toNat_inj.1
  omega
theorem byte_eq {b c : UInt8} (h : (b == c) = true) : ((b.toNat : Int) == (c.toNat : Int)) = true := by
  rw [beq_iff_eq] at h ⊢
  rw [h]
set_option maxHeartbeats 1000000 in
theorem refName_any (s : ByteArray) (w : World) (hs : s.size ≤ maxLen) :
    Calls Tryz.prog 39 #[.string s] w fun e w' => e = .returned (.bool (nb s)) ∧ w = w' := by
  unfold maxLen at hs
  have HQ := Lib.hid (nb_eq s)
  rw [tl_len] at HQ
  go_enter Tryz.func39, Tryz.ntmps39
  go_wp2
  go_loop [3] (fun v => ∃ i : Nat, i ≤ s.size ∧ v = .int .i64 i ∧ Hid ((s.data.toList.take i).contains 47 = false ∧ (s.data.toList.take i).contains 0 = false)) (fun v => s.size - (intOf v).toNat)
  case atStart => exact ⟨0, Nat.zero_le _, rfl, by simp, by simp⟩
  case round =>
    obtain ⟨i, hi, rfl, HI⟩ := hrel
    by_cases hlt : i < s.size
    · have h47 := has_take (c := 47) hlt
      have h0 := has_take (c := 0) hlt
      rw [(Hid.out HI).1, Bool.false_or] at h47
      rw [(Hid.out HI).2, Bool.false_or] at h0
      have mem : ∀ c, (s.data.toList.take (i + 1)).contains c = true → has s c = true := by
        intro c hc
        rw [has_iff]
        rw [List.contains_iff_mem] at hc
        exact List.mem_of_mem_take hc
      cases b47 : (s[i] == 47)
      · have c47 : ((s[i].toNat : Int) == 47) = false := byte_ne b47
        cases b0 : (s[i] == 0)
        · have c0 : ((s[i].toNat : Int) == 0) = false := byte_ne b0
          have HI2 := Lib.hid (show (s.data.toList.take (i + 1)).contains 47 = false ∧ (s.data.toList.take (i + 1)).contains 0 = false from ⟨h47.trans b47, h0.trans b0⟩)
          clear h47 h0 mem b47 b0 HI
          go_wp2
          go_round
          case rel => exact ⟨i + 1, by omega, by go_num, HI2⟩
          case measure => simp [intOf]; omega
        · have c0 : ((s[i].toNat : Int) == 0) = true := byte_eq b0
          have HN := Lib.hid (show nb s = false by rw [HQ.out, mem 0 (h0.trans b0)]; simp)
          clear h47 h0 mem b47 b0 HI
          go_wp2
          go_ret
          exact ⟨by rw [HN.out]; rfl, rfl⟩
      · have c47 : ((s[i].toNat : Int) == 47) = true := byte_eq b47
        have HN := Lib.hid (show nb s = false by rw [HQ.out, mem 47 (h47.trans b47)]; simp)
        clear h47 h0 mem b47 HI
        go_wp2
        go_ret
        exact ⟨by rw [HN.out]; rfl, rfl⟩
    · obtain rfl : i = s.size := by omega
      rw [List.take_of_length_le (by simp)] at HI
      have hq := HQ.out
      rw [show has s 47 = false from (Hid.out HI).1, show has s 0 = false from (Hid.out HI).2] at hq
      clear HI HQ
      by_cases h1 : s.toList = []
      · have e1 : s.toList.isEmpty = true := by rw [h1]; rfl
        have e1' : (!s.toList.isEmpty) = false := by rw [e1]; rfl
        have HN := Lib.hid (show nb s = false by rw [hq, e1]; rfl)
        clear hq
        go_wp2
        go_ret
        exact ⟨by rw [HN.out]; rfl, rfl⟩
      · have e1 : s.toList.isEmpty = false := by cases h : s.toList with | nil => exact absurd h h1 | cons a l => rfl
        have e1' : (!s.toList.isEmpty) = true := by rw [e1]; rfl
        by_cases h2 : s.size ≤ 24
        · have d2 : decide ((s.size : Int) ≤ 24) = true := by simp; omega
          rw [e1, decide_eq_true h2] at hq
          by_cases h3 : s.toList = [46]
          · have e3 : (s.toList == [46]) = true := by rw [h3]; rfl
            have HN := Lib.hid (show nb s = false by rw [hq, e3]; simp)
            clear hq
            go_wp2
            go_ret
            exact ⟨by rw [HN.out]; rfl, rfl⟩
          · have e3 : (s.toList == [46]) = false := by simpa using h3
            by_cases h4 : s.toList = [46, 46]
            · have e4 : (s.toList == [46, 46]) = true := by rw [h4]; rfl
              have HN := Lib.hid (show nb s = false by rw [hq, e4]; simp)
              clear hq h4
              go_wp2
              go_ret
              exact ⟨by rw [HN.out]; rfl, rfl⟩
            · have e4 : (s.toList == [46, 46]) = false := by simpa using h4
              have HN := Lib.hid (show nb s = true by rw [hq, e3, e4]; rfl)
              clear hq
              go_wp2
              go_ret
              exact ⟨by rw [HN.out]; rfl, rfl⟩
        · have d2 : decide ((s.size : Int) ≤ 24) = false := by simp; omega
          have HN := Lib.hid (show nb s = false by rw [hq, decide_eq_false h2]; simp)
          clear hq
          go_wp2
          go_ret
          exact ⟨by rw [HN.out]; rfl, rfl⟩
end Go.Proofs.YtngcogjjcidccaaGreat.Ph
