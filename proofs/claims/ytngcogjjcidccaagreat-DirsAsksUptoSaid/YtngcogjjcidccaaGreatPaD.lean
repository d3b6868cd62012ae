/- Contract of the document's own way to take a path apart. -/
import Derived.Test.YtngcogjjcidccaaGreatPaC
namespace Go.Proofs.YtngcogjjcidccaaGreat.Ph
set_option linter.unusedVariables false
open Go.ChangeShapes Go.WideShapes Go.ChangeAt Go.RowKit
open BigFrame
open Ar
theorem ba_ext {a b : ByteArray} (h : a.data.toList = b.data.toList) : a = b := ByteArray.ext (Array.toList_inj.1 h)
theorem extract_none (p : ByteArray) (k : Nat) : p.extract k k = ByteArray.empty := by
  apply ba_ext
  rw [extract_list]; simp
theorem extract_one {p : ByteArray} {j i : Nat} (hj : j ≤ i) : p.extract j i ++ p.extract i (i + 1) = p.extract j (i + 1) := by
  apply ba_ext
  rw [ByteArray.data_append, Array.toList_append, extract_list, extract_list, extract_list, show i + 1 - i = 1 by omega]
  have e : List.drop i p.data.toList = List.drop (i - j) (List.drop j p.data.toList) := by rw [List.drop_drop]; congr 1; omega
  rw [e, show i + 1 - j = (i - j) + 1 by omega, List.take_add]
/-- how far the document's loop is: the names so far, where the next one begins -/
def AtP (p : ByteArray) (D : List ByteArray) (j i : Nat) : Prop :=
  D.all nb = true ∧ ((i ≤ p.size ∧ j ≤ i ∧ (p.extract j i).data.toList.contains 47 = false ∧ cutB (p.extract 1 p.size) = D ++ cutB (p.extract j p.size)) ∨ (i = p.size + 1 ∧ cutB (p.extract 1 p.size) = D))
theorem AtP.start {p : ByteArray} (h : 1 ≤ p.size) : AtP p [] 1 1 := ⟨rfl, .inl ⟨h, Nat.le_refl _, by rw [extract_none]; rfl, rfl⟩⟩
theorem sub_get {p : ByteArray} {j i : Nat} (hj : j ≤ i) (hi : i < p.size) : ∃ h : i - j < (p.extract j p.size).size, (p.extract j p.size)[i - j] = p[i] := by
  have h : i - j < (p.extract j p.size).size := by rw [ByteArray.size_extract]; omega
  refine ⟨h, ?_⟩
  rw [ByteArray.getElem_extract]
  congr 1; omega
theorem sub_take {p : ByteArray} {j i : Nat} (hj : j ≤ i) (hi : i ≤ p.size) : (p.extract j p.size).data.toList.take (i - j) = (p.extract j i).data.toList := by
  rw [extract_list, extract_list, List.take_take]
  congr 1; omega
theorem AtP.char {p : ByteArray} {D : List ByteArray} {j i : Nat} (h : AtP p D j i) (hi : i < p.size) (hc : (p[i] == 47) = false) : AtP p D j (i + 1) := by
  obtain ⟨h1, h2 | h2⟩ := h
  · obtain ⟨a, b, c, d⟩ := h2
    refine ⟨h1, .inl ⟨hi, by omega, ?_, d⟩⟩
    rw [← extract_one b, ByteArray.data_append, Array.toList_append]
    have e : (p.extract i (i + 1)).data.toList = [p[i]] := by
      rw [extract_list, show i + 1 - i = 1 by omega, List.take_one]
      simp [hi]
      rfl
    rw [e, Bool.eq_false_iff]
    intro hm
    rw [List.contains_iff_mem, List.mem_append] at hm
    rcases hm with hm | hm
    · rw [← List.contains_iff_mem] at hm; rw [c] at hm; cases hm
    · rw [List.mem_singleton] at hm
      rw [← hm] at hc; cases hc
  · omega
theorem AtP.bad {p : ByteArray} {D : List ByteArray} {j i : Nat} (h : AtP p D j i) (hi : i ≤ p.size) (hc : ∀ h : i < p.size, (p[i] == 47) = true) (hb : nb (p.extract j i) = false) : (cutB (p.extract 1 p.size)).all nb = false := by
  obtain ⟨h1, h2 | h2⟩ := h
  · obtain ⟨a, b, c, d⟩ := h2
    rw [d, List.all_append]
    rcases Nat.lt_or_ge i p.size with hlt | hge
    · obtain ⟨h5, h6⟩ := sub_get b hlt
      rw [cutB_at h5 (by rw [sub_take b a]; exact c) (by rw [h6]; exact hc hlt)]
      have e : (p.extract j p.size).extract 0 (i - j) = p.extract j i := by
        apply ba_ext
        rw [extract_list, List.drop_zero, Nat.sub_zero, sub_take b a]
      rw [e, List.all_cons, hb]; simp
    · obtain rfl : i = p.size := by omega
      rw [cutB_none c, List.all_cons, hb]; simp
  · omega
theorem AtP.next {p : ByteArray} {D : List ByteArray} {j i : Nat} (h : AtP p D j i) (hi : i ≤ p.size) (hc : ∀ h : i < p.size, (p[i] == 47) = true) (hb : nb (p.extract j i) = true) : AtP p (D ++ [p.extract j i]) (i + 1) (i + 1) := by
  obtain ⟨h1, h2 | h2⟩ := h
  · obtain ⟨a, b, c, d⟩ := h2
    refine ⟨by rw [List.all_append, h1, List.all_cons, hb]; rfl, ?_⟩
    rcases Nat.lt_or_ge i p.size with hlt | hge
    · obtain ⟨h5, h6⟩ := sub_get b hlt
      have hcut := cutB_at h5 (by rw [sub_take b a]; exact c) (by rw [h6]; exact hc hlt)
      have e : (p.extract j p.size).extract 0 (i - j) = p.extract j i := by
        apply ba_ext
        rw [extract_list, List.drop_zero, Nat.sub_zero, sub_take b a]
      have e2 : (p.extract j p.size).extract (i - j + 1) (p.extract j p.size).size = p.extract (i + 1) p.size := by
        apply ba_ext
        rw [extract_list, extract_list, extract_list, ByteArray.size_extract, List.drop_take, List.drop_drop, List.take_take]
        congr 1
        · omega
        · congr 1; omega
      rw [e, e2] at hcut
      left
      refine ⟨hlt, Nat.le_refl _, by rw [extract_none]; rfl, ?_⟩
      rw [d, hcut, List.append_assoc]; rfl
    · obtain rfl : i = p.size := by omega
      right
      refine ⟨rfl, ?_⟩
      rw [d, cutB_none c]
  · omega
theorem AtP.done {p : ByteArray} {D : List ByteArray} {j i : Nat} (h : AtP p D j i) (hi : ¬ i ≤ p.size) : D = cutB (p.extract 1 p.size) ∧ (cutB (p.extract 1 p.size)).all nb = true := by
  obtain ⟨h1, h2 | h2⟩ := h
  · omega
  · rw [h2.2]; exact ⟨rfl, h1⟩
theorem AtP.len {p : ByteArray} {D : List ByteArray} {j i : Nat} (h : D.length ≤ i) : (D ++ [p.extract j i]).length ≤ i + 1 := by simp; omega
theorem head_get {p : ByteArray} (h : 0 < p.size) : p.data.toList.head? = some p[0] := by
  have hl : 0 < p.data.toList.length := by rw [sz_len]; exact h
  rw [List.head?_eq_getElem?, List.getElem?_eq_getElem hl]
  rfl
theorem ne_of {a b : Int} {q : Bool} (h : (a == b) = q) : (a != b) = !q := by rw [bne, h]
set_option maxRecDepth 100000 in
set_option maxHeartbeats 2000000 in
theorem refSplit_any (p : ByteArray) (hp : p.size ≤ maxLen) (w : World) : Calls Tryz.prog 22 #[.string p] w (SplitPost w p) := by
  unfold maxLen at hp
  by_cases h1 : p.size ≤ 256
  · have d1 : decide (256 < (p.size : Int)) = false := by simp; omega
    by_cases h0 : p.size = 0
    · have he : p.toList = [] := by rw [tl]; exact List.eq_nil_of_length_eq_zero (by rw [sz_len]; exact h0)
      have e1 : p.toList.isEmpty = true := by rw [he]; rfl
      have HS := Lib.hid (sp_no h1 (by rw [he]; decide) (by rw [← tl, he]; simp))
      clear h0
      go_enter Tryz.func22, Tryz.ntmps22
      go_wp2
      go_ret2
      exact SplitPost.no HS.out (Below.refl _ _)
    · have hpos : 0 < p.size := by omega
      have he : ¬ p.toList = [] := by rw [tl]; intro h; have h3 := congrArg List.length h; rw [sz_len] at h3; exact h0 h3
      have e1 : p.toList.isEmpty = false := by cases h : p.toList with | nil => exact absurd h he | cons a l => rfl
      cases b47 : (p[0] == 47)
      · have c1 : ((p[0].toNat : Int) == 47) = false := byte_ne b47
        have c2 : ((p[0].toNat : Int) != 47) = true := ne_of c1
        have hn2 : ¬ p.toList = [47] := by
          rw [tl]
          intro h
          have h3 := head_get hpos
          rw [h] at h3
          simp at h3
          rw [← h3] at b47; cases b47
        have HS := Lib.hid (sp_no h1 hn2 (by rw [head_get hpos]; intro h; injection h with h; rw [h] at b47; cases b47))
        clear b47 hn2 h0
        go_enter Tryz.func22, Tryz.ntmps22
        go_wp2
        go_ret2
        exact SplitPost.no HS.out (Below.refl _ _)
      · have c1 : ((p[0].toNat : Int) == 47) = true := byte_eq b47
        have c2 : ((p[0].toNat : Int) != 47) = false := ne_of c1
        by_cases h2 : p.toList = [47]
        · have HS := Lib.hid (sp_root h2)
          have e2 : (p.toList == [47]) = true := by rw [h2]; rfl
          clear b47 h0
          go_enter Tryz.func22, Tryz.ntmps22
          go_wp2
          go_ret2
          exact SplitPost.no HS.out (Below.refl _ _)
        · have e2 : (p.toList == [47]) = false := by simpa using h2
          have HY := Lib.hid (sp_yes h1 h2 (by rw [head_get hpos, (beq_iff_eq.1 b47)]))
          have HB := Lib.hid (sp_bad h1 h2)
          clear b47 h0
          go_enter Tryz.func22, Tryz.ntmps22
          go_wp2_with fail
          go_loopw [4, 5, 6] (fun lv nv iv wr => ∃ (D : List ByteArray) (j i : Nat) (t : ByteArray), iv = .int .i64 i ∧ i ≤ p.size + 1 ∧ j ≤ i ∧ D.length ≤ i ∧ nv = .string t ∧ Hid (t = p.extract j i ∨ ¬ i ≤ p.size) ∧ Hid (AtP p D j i) ∧ Hid (MkS w wr lv D)) (fun _ _ iv _ => p.size + 1 - (intOf iv).toNat)
          case atStart => exact ⟨[], 1, 1, ByteArray.empty, by go_num, Nat.le_add_left 1 p.size, Nat.le_refl 1, Nat.zero_le _, rfl, Lib.hid (.inl (extract_none _ _).symm), Lib.hid (AtP.start hpos), Lib.hid (Mk.nil (Below.refl _ _))⟩
          case round =>
            obtain ⟨D, j, i, t, rfl, hi, hj, hD, rfl, HT, HA, HM⟩ := hrel
            by_cases hle : i ≤ p.size
            · have ht : t = p.extract j i := (Hid.out HT).resolve_right (fun h => h hle)
              have hts : t.size ≤ 256 := by rw [ht, ByteArray.size_extract]; omega
              have HT2 := Lib.hid ht
              clear ht HT
              by_cases hlt : i < p.size
              · cases b47 : (p[i] == 47)
                · have k1 : ((p[i].toNat : Int) == 47) = false := byte_ne b47
                  have k2 : ((p[i].toNat : Int) != 47) = true := ne_of k1
                  have HA2 := Lib.hid ((Hid.out HA).char hlt b47)
                  have HT3 := Lib.hid (show t ++ p.extract i (i + 1) = p.extract j (i + 1) by rw [HT2.out, extract_one hj])
                  clear b47 HA
                  go_wp2_with fail
                  refine ⟨⟨D, j, i + 1, _, by go_num, by omega, by omega, by omega, rfl, Lib.hid (.inl HT3.out), HA2, HM⟩, ?_⟩
                  simp [intOf]
                  omega
                · have k1 : ((p[i].toNat : Int) == 47) = true := byte_eq b47
                  have k2 : ((p[i].toNat : Int) != 47) = false := ne_of k1
                  have HNm := Lib.hid (fun w => refName_any t w (by unfold maxLen; omega))
                  cases hq : nb t
                  · rw [hq] at HNm
                    have HS := Lib.hid (HB.out ((Hid.out HA).bad hle (fun _ => b47) (HT2.out ▸ hq)))
                    clear hq b47 HA
                    go_wp2_with (go_at_call 39; refine (HNm.out _).mono ?_; rintro e w' ⟨rfl, rfl⟩)
                    go_ret2
                    exact SplitPost.no HS.out (Hid.out HM).2
                  · rw [hq] at HNm
                    have HA2 := Lib.hid ((Hid.out HA).next hle (fun _ => b47) (HT2.out ▸ hq))
                    rw [← HT2.out] at HA2
                    clear hq b47 HA
                    go_wp2_with (first
                      | (go_at_call 39; refine (HNm.out _).mono ?_; rintro e w' ⟨rfl, rfl⟩)
                      | (at_builtin; refine catS ((Hid.out HM).alloc _) [t] _ 1 1 rfl (Ls.new _ _ _ _ (Nat.lt_succ_self _)) (by omega) rfl _ _ rfl rfl rfl ?_; intro v3 w3 hM hG; have HM4 := Lib.hid hM; clear hM hG))
                    refine ⟨⟨D ++ [t], i + 1, i + 1, _, by go_num, by omega, Nat.le_refl _, by simp; omega, rfl, Lib.hid (.inl (extract_none _ _).symm), HA2, HM4⟩, ?_⟩
                    simp [intOf]
                    omega
              · have hlt' : p.size = i := by omega
                have HNm := Lib.hid (fun w => refName_any t w (by unfold maxLen; omega))
                cases hq : nb t
                · rw [hq] at HNm
                  have HS := Lib.hid (HB.out ((Hid.out HA).bad hle (fun h => absurd h hlt) (HT2.out ▸ hq)))
                  clear hq HA hlt'
                  go_wp2_with (go_at_call 39; refine (HNm.out _).mono ?_; rintro e w' ⟨rfl, rfl⟩)
                  go_ret2
                  exact SplitPost.no HS.out (Hid.out HM).2
                · rw [hq] at HNm
                  have HA2 := Lib.hid ((Hid.out HA).next hle (fun h => absurd h hlt) (HT2.out ▸ hq))
                  rw [← HT2.out] at HA2
                  clear hq HA hlt'
                  go_wp2_with (first
                    | (go_at_call 39; refine (HNm.out _).mono ?_; rintro e w' ⟨rfl, rfl⟩)
                    | (at_builtin; refine catS ((Hid.out HM).alloc _) [t] _ 1 1 rfl (Ls.new _ _ _ _ (Nat.lt_succ_self _)) (by omega) rfl _ _ rfl rfl rfl ?_; intro v3 w3 hM hG; have HM4 := Lib.hid hM; clear hM hG))
                  refine ⟨⟨D ++ [t], i + 1, i + 1, _, by go_num, by omega, Nat.le_refl _, by simp; omega, rfl, Lib.hid (.inl (extract_none _ _).symm), HA2, HM4⟩, ?_⟩
                  simp [intOf]
                  omega
            · obtain ⟨hd, hall⟩ := (Hid.out HA).done hle
              have HS := Lib.hid (HY.out hall)
              have HD := Lib.hid hd
              clear hd hall HA
              go_wp2
              go_ret2
              refine ⟨_, by rw [HS.out.1]; rfl, ?_⟩
              rw [HS.out.2, ← HD.out]
              exact Hid.out HM
  · have d1 : decide (256 < (p.size : Int)) = true := by simp; omega
    have HS := Lib.hid (sp_long (p := p) (by omega))
    go_enter Tryz.func22, Tryz.ntmps22
    go_wp2
    go_ret2
    exact SplitPost.no HS.out (Below.refl _ _)
end Go.Proofs.YtngcogjjcidccaaGreat.Ph
