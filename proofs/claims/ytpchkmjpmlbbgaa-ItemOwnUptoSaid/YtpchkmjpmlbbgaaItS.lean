/- Contracts of package item's there, apart, Diff and Apply. -/
import Derived.Test.YtpchkmjpmlbbgaaItQ
import Derived.Test.YtpchkmjpmlbbgaaItP
namespace Go.Proofs.Ytpchkmjpmlbbgaa.It
set_option linter.unusedVariables false
open Go.ChangeShapes Go.WideShapes Go.ChangeAt Go.RowKit
open Ar Rg St
open BigFrame
theorem there_any (x : Itm) (w : World) :
    Calls Try.prog 43 #[.agg #[.string x.k, .string x.v]] w fun e w' => e = .returned (.agg #[.string x.k, .bool true, .string x.v]) ∧ Below w.heap.size w w' := by
  go_enter Try.func43, Try.ntmps43
  go_wp2
  exact bodyPost_ret (v := .agg #[.string x.k, .bool true, .string x.v]) (by simp [results, Try.results43, go_sem]) rfl ⟨rfl, ((Below.refl _ _).alloc (Nat.le_refl _) _).alloc (by simp) _⟩
/-- what has been put, what is left of the two -/
def AtD (A B : List Itm) (i j : Nat) (O : List Ch) : Prop := O ++ dif (A.drop i) (B.drop j) = dif A B ∧ O.length ≤ i + j
theorem AtD.left {A B : List Itm} {i j : Nat} {O : List Ch} {a : Itm} (h : AtD A B i j O) (ha : A[i]? = some a) (hj : B.length ≤ j) : AtD A B (i + 1) j (O ++ [gone a]) := by
  obtain ⟨h1, h2⟩ := h
  refine ⟨?_, by simp; omega⟩
  rw [← h1, drop_at ha, List.drop_eq_nil_of_le hj, dif_left, List.append_assoc]; rfl
theorem AtD.ahead {A B : List Itm} {i j : Nat} {O : List Ch} {a b : Itm} (h : AtD A B i j O) (ha : A[i]? = some a) (hb : B[j]? = some b) (hl : lt (key a) (key b) = true) : AtD A B (i + 1) j (O ++ [gone a]) := by
  obtain ⟨h1, h2⟩ := h
  refine ⟨?_, by simp; omega⟩
  rw [← h1, drop_at ha, drop_at hb, dif_lt _ _ hl, List.append_assoc]; rfl
theorem AtD.right {A B : List Itm} {i j : Nat} {O : List Ch} {b : Itm} (h : AtD A B i j O) (hi : A.length ≤ i) (hb : B[j]? = some b) : AtD A B i (j + 1) (O ++ [there b]) := by
  obtain ⟨h1, h2⟩ := h
  refine ⟨?_, by simp; omega⟩
  rw [← h1, List.drop_eq_nil_of_le hi, drop_at hb, dif_right, List.append_assoc]; rfl
theorem AtD.behind {A B : List Itm} {i j : Nat} {O : List Ch} {a b : Itm} (h : AtD A B i j O) (ha : A[i]? = some a) (hb : B[j]? = some b) (hl : lt (key b) (key a) = true) : AtD A B i (j + 1) (O ++ [there b]) := by
  obtain ⟨h1, h2⟩ := h
  refine ⟨?_, by simp; omega⟩
  rw [← h1, drop_at ha, drop_at hb, dif_gt _ _ hl, List.append_assoc]; rfl
theorem AtD.same {A B : List Itm} {i j : Nat} {O : List Ch} {a b : Itm} (h : AtD A B i j O) (ha : A[i]? = some a) (hb : B[j]? = some b) (hk : key a = key b) (hv : a.v.data.toList = b.v.data.toList) : AtD A B (i + 1) (j + 1) O := by
  obtain ⟨h1, h2⟩ := h
  refine ⟨?_, by omega⟩
  rw [← h1, drop_at ha, drop_at hb, dif_same _ _ hk hv]
theorem AtD.other {A B : List Itm} {i j : Nat} {O : List Ch} {a b : Itm} (h : AtD A B i j O) (ha : A[i]? = some a) (hb : B[j]? = some b) (hk : key a = key b) (hv : a.v.data.toList ≠ b.v.data.toList) : AtD A B (i + 1) (j + 1) (O ++ [there b]) := by
  obtain ⟨h1, h2⟩ := h
  refine ⟨?_, by simp; omega⟩
  rw [← h1, drop_at ha, drop_at hb, dif_other _ _ hk hv, List.append_assoc]; rfl
theorem AtD.done {A B : List Itm} {i j : Nat} {O : List Ch} (h : AtD A B i j O) (hi : A.length ≤ i) (hj : B.length ≤ j) : O = dif A B := by
  have h1 := h.1
  rw [List.drop_eq_nil_of_le hi, List.drop_eq_nil_of_le hj, dif_nil [], List.append_nil] at h1
  exact h1
theorem O_tri {a b : List UInt8} (h : lt a b = false) (h' : lt b a = false) : a = b := O.tri _ _ h h'
theorem bl_of {a b : ByteArray} {q : Bool} (h : lt a.data.toList b.data.toList = q) : Op.bytesLess a.toList b.toList = q := by
  rw [ByteArray.toList_eq, ByteArray.toList_eq]; exact h
set_option maxRecDepth 100000 in
set_option maxHeartbeats 3000000 in
theorem apart_any (X Y : List Itm) (A A' : Option Addr) (n c m c' B B' : Nat) (hn : n = X.length) (hm : m = Y.length) (hlen : n ≤ 1099511627776) (hlen' : m ≤ 1099511627776) (w : World) (hB : B ≤ w.heap.size) (hB' : B' ≤ w.heap.size) (hX : Ls enc 2 w B A X) (hY : Ls enc 2 w B' A' Y) :
    Calls Try.prog 35 #[.slice A n c, .slice A' m c'] w fun e w' => ∃ v, e = .returned v ∧ MkC w w' v (dif X Y) := by
  have HN := Lib.hid hn
  have HN' := Lib.hid hm
  have HX := Lib.hid hX
  have HY := Lib.hid hY
  clear hn hm hX hY
  go_enter Try.func35, Try.ntmps35
  go_wp2_with fail
  go_step3
  go_wp2_with fail
  go_step3
  go_wp2_with fail
  go_loopw [5, 6, 7] (fun ov iv jv wr => ∃ (i j : Nat) (O : List Ch), i ≤ n ∧ j ≤ m ∧ iv = .int .i64 i ∧ jv = .int .i64 j ∧ Hid (AtD X Y i j O) ∧ Hid (MkC w wr ov O)) (fun _ iv jv _ => (n + m) - ((intOf iv).toNat + (intOf jv).toNat))
  case atStart => exact ⟨0, 0, [], Nat.zero_le _, Nat.zero_le _, by go_num, by go_num, ⟨rfl, Nat.le_refl _⟩, Mk.nil (Below.refl _ _)⟩
  case round =>
    obtain ⟨i, j, O, hi, hj, rfl, rfl, hat, hmk⟩ := hrel
    have hol : O.length ≤ i + j := (Hid.out hat).2
    have HM := hmk
    by_cases hin : i < n
    · have q1 : ((i : Int) == (n : Int)) = false := by rw [beq_eq_false_iff_ne]; omega
      have q2 : decide ((i : Int) < (n : Int)) = true := by rw [decide_eq_true_iff]; omega
      obtain ⟨a, ha⟩ : ∃ a, X[i]? = some a := ⟨_, List.getElem?_eq_getElem (by rw [← HN.out]; exact hin)⟩
      obtain ⟨b, o, hAe, hb, hr⟩ := (HX.out.below ((Hid.out hmk).2.mono hB)) i a ha
      have ha0 : wr.cell? ⟨b, o + i * 2, none⟩ = some (.string a.k) := hr 0 _ rfl
      have ha1 : wr.cell? ⟨b, o + i * 2 + 1, none⟩ = some (.string a.v) := hr 1 _ rfl
      clear hr
      subst hAe
      by_cases hjm : j < m
      · have q3 : ((j : Int) == (m : Int)) = false := by rw [beq_eq_false_iff_ne]; omega
        obtain ⟨b2, hb2⟩ : ∃ b2, Y[j]? = some b2 := ⟨_, List.getElem?_eq_getElem (by rw [← HN'.out]; exact hjm)⟩
        obtain ⟨b', o', hAe, hb', hr⟩ := (HY.out.below ((Hid.out hmk).2.mono hB')) j b2 hb2
        have hb0 : wr.cell? ⟨b', o' + j * 2, none⟩ = some (.string b2.k) := hr 0 _ rfl
        have hb1 : wr.cell? ⟨b', o' + j * 2 + 1, none⟩ = some (.string b2.v) := hr 1 _ rfl
        clear hr
        subst hAe
        by_cases h1 : lt (key a) (key b2) = true
        · have HAT := Lib.hid ((Hid.out hat).ahead ha hb2 h1)
          have q4 := bl_of h1
          clear h1 hat ha hb2 hmk
          go_wp2_with fail
          go_big_quiet (fail)
          have HM2 := Lib.hid (HM.out.drewN nq)
          clear HM
          have ha0' : (wr.drewN nq).cell? ⟨b, o + i * 2, none⟩ = some (.string a.k) := ha0
          clear ha0
          have ha0 := ha0'
          clear ha0'
          have ha1' : (wr.drewN nq).cell? ⟨b, o + i * 2 + 1, none⟩ = some (.string a.v) := ha1
          clear ha1
          have ha1 := ha1'
          clear ha1'
          have hb0' : (wr.drewN nq).cell? ⟨b', o' + j * 2, none⟩ = some (.string b2.k) := hb0
          clear hb0
          have hb0 := hb0'
          clear hb0'
          have hb1' : (wr.drewN nq).cell? ⟨b', o' + j * 2 + 1, none⟩ = some (.string b2.v) := hb1
          clear hb1
          have hb1 := hb1'
          clear hb1'
          generalize World.drewN wr nq = W2 at *
          go_wp2_with (at_builtin; refine catC (HM2.out.alloc _) [gone a] _ 1 1 rfl (Ls.new _ (gone a) _ _ (Nat.lt_succ_self _)) (by omega) rfl _ _ rfl rfl rfl ?_; intro v3 w3 hM3 hG3; have HM3 := Lib.hid hM3; clear hM3 hG3)
          exact ⟨⟨i + 1, j, O ++ [gone a], by omega, by omega, by go_num, by go_num, HAT.out, HM3.out⟩, by simp [intOf] <;> omega⟩
        · have h1 : lt (key a) (key b2) = false := by simpa using h1
          have q4 := bl_of h1
          by_cases h2 : lt (key b2) (key a) = true
          · have HAT := Lib.hid ((Hid.out hat).behind ha hb2 h2)
            have q5 := bl_of h2
            clear h1 h2 hat ha hb2 hmk
            go_wp2_with fail
            go_big_quiet (fail)
            have HM2 := Lib.hid (HM.out.drewN nq)
            clear HM
            have ha0' : (wr.drewN nq).cell? ⟨b, o + i * 2, none⟩ = some (.string a.k) := ha0
            clear ha0
            have ha0 := ha0'
            clear ha0'
            have ha1' : (wr.drewN nq).cell? ⟨b, o + i * 2 + 1, none⟩ = some (.string a.v) := ha1
            clear ha1
            have ha1 := ha1'
            clear ha1'
            have hb0' : (wr.drewN nq).cell? ⟨b', o' + j * 2, none⟩ = some (.string b2.k) := hb0
            clear hb0
            have hb0 := hb0'
            clear hb0'
            have hb1' : (wr.drewN nq).cell? ⟨b', o' + j * 2 + 1, none⟩ = some (.string b2.v) := hb1
            clear hb1
            have hb1 := hb1'
            clear hb1'
            generalize World.drewN wr nq = W2 at *
            go_wp2_with fail
            go_big_quiet (fail)
            have HM4 := Lib.hid (HM2.out.drewN nq)
            clear HM2
            have ha0' : (W2.drewN nq).cell? ⟨b, o + i * 2, none⟩ = some (.string a.k) := ha0
            clear ha0
            have ha0 := ha0'
            clear ha0'
            have ha1' : (W2.drewN nq).cell? ⟨b, o + i * 2 + 1, none⟩ = some (.string a.v) := ha1
            clear ha1
            have ha1 := ha1'
            clear ha1'
            have hb0' : (W2.drewN nq).cell? ⟨b', o' + j * 2, none⟩ = some (.string b2.k) := hb0
            clear hb0
            have hb0 := hb0'
            clear hb0'
            have hb1' : (W2.drewN nq).cell? ⟨b', o' + j * 2 + 1, none⟩ = some (.string b2.v) := hb1
            clear hb1
            have hb1 := hb1'
            clear hb1'
            generalize World.drewN W2 nq = W3 at *
            go_wp2_with (first | (go_at_call 43; refine (there_any b2 _).mono ?_; rintro e wt ⟨rfl, hbt⟩; have HMT := Lib.hid (HM4.out.go hbt); clear hbt) | (at_builtin; refine catC (HMT.out.alloc _) [there b2] _ 1 1 rfl (Ls.new _ (there b2) _ _ (Nat.lt_succ_self _)) (by omega) rfl _ _ rfl rfl rfl ?_; intro v3 w3 hM3 hG3; have HM3 := Lib.hid hM3; clear hM3 hG3))
            exact ⟨⟨i, j + 1, O ++ [there b2], by omega, by omega, by go_num, by go_num, HAT.out, HM3.out⟩, by simp [intOf] <;> omega⟩
          · have h2 : lt (key b2) (key a) = false := by simpa using h2
            have q5 := bl_of h2
            have hk : key a = key b2 := O_tri h1 h2
            have q6 : (a.k.toList == b2.k.toList) = true := by rw [str_eq]; exact decide_eq_true hk
            by_cases hv : a.v.data.toList = b2.v.data.toList
            · have q7 : (a.v.toList == b2.v.toList) = true := by rw [str_eq]; exact decide_eq_true hv
              have HAT := Lib.hid ((Hid.out hat).same ha hb2 hk hv)
              clear h1 h2 hk hv hat ha hb2 hmk
              go_wp2_with fail
              go_big_quiet (fail)
              have HM2 := Lib.hid (HM.out.drewN nq)
              clear HM
              have ha0' : (wr.drewN nq).cell? ⟨b, o + i * 2, none⟩ = some (.string a.k) := ha0
              clear ha0
              have ha0 := ha0'
              clear ha0'
              have ha1' : (wr.drewN nq).cell? ⟨b, o + i * 2 + 1, none⟩ = some (.string a.v) := ha1
              clear ha1
              have ha1 := ha1'
              clear ha1'
              have hb0' : (wr.drewN nq).cell? ⟨b', o' + j * 2, none⟩ = some (.string b2.k) := hb0
              clear hb0
              have hb0 := hb0'
              clear hb0'
              have hb1' : (wr.drewN nq).cell? ⟨b', o' + j * 2 + 1, none⟩ = some (.string b2.v) := hb1
              clear hb1
              have hb1 := hb1'
              clear hb1'
              generalize World.drewN wr nq = W2 at *
              go_wp2_with fail
              go_big_quiet (fail)
              have HM4 := Lib.hid (HM2.out.drewN nq)
              clear HM2
              have ha0' : (W2.drewN nq).cell? ⟨b, o + i * 2, none⟩ = some (.string a.k) := ha0
              clear ha0
              have ha0 := ha0'
              clear ha0'
              have ha1' : (W2.drewN nq).cell? ⟨b, o + i * 2 + 1, none⟩ = some (.string a.v) := ha1
              clear ha1
              have ha1 := ha1'
              clear ha1'
              have hb0' : (W2.drewN nq).cell? ⟨b', o' + j * 2, none⟩ = some (.string b2.k) := hb0
              clear hb0
              have hb0 := hb0'
              clear hb0'
              have hb1' : (W2.drewN nq).cell? ⟨b', o' + j * 2 + 1, none⟩ = some (.string b2.v) := hb1
              clear hb1
              have hb1 := hb1'
              clear hb1'
              generalize World.drewN W2 nq = W3 at *
              go_wp2_with fail
              go_big_quiet (fail)
              have HM3 := Lib.hid (HM4.out.drewN nq)
              clear HM4
              have ha0' : (W3.drewN nq).cell? ⟨b, o + i * 2, none⟩ = some (.string a.k) := ha0
              clear ha0
              have ha0 := ha0'
              clear ha0'
              have ha1' : (W3.drewN nq).cell? ⟨b, o + i * 2 + 1, none⟩ = some (.string a.v) := ha1
              clear ha1
              have ha1 := ha1'
              clear ha1'
              have hb0' : (W3.drewN nq).cell? ⟨b', o' + j * 2, none⟩ = some (.string b2.k) := hb0
              clear hb0
              have hb0 := hb0'
              clear hb0'
              have hb1' : (W3.drewN nq).cell? ⟨b', o' + j * 2 + 1, none⟩ = some (.string b2.v) := hb1
              clear hb1
              have hb1 := hb1'
              clear hb1'
              generalize World.drewN W3 nq = W4 at *
              go_wp2_with fail
              exact ⟨⟨i + 1, j + 1, O, by omega, by omega, by go_num, by go_num, HAT.out, HM3.out⟩, by simp [intOf] <;> omega⟩
            · have q7 : (a.v.toList == b2.v.toList) = false := by rw [str_eq]; exact decide_eq_false hv
              have HAT := Lib.hid ((Hid.out hat).other ha hb2 hk hv)
              clear h1 h2 hk hv hat ha hb2 hmk
              go_wp2_with fail
              go_big_quiet (fail)
              have HM2 := Lib.hid (HM.out.drewN nq)
              clear HM
              have ha0' : (wr.drewN nq).cell? ⟨b, o + i * 2, none⟩ = some (.string a.k) := ha0
              clear ha0
              have ha0 := ha0'
              clear ha0'
              have ha1' : (wr.drewN nq).cell? ⟨b, o + i * 2 + 1, none⟩ = some (.string a.v) := ha1
              clear ha1
              have ha1 := ha1'
              clear ha1'
              have hb0' : (wr.drewN nq).cell? ⟨b', o' + j * 2, none⟩ = some (.string b2.k) := hb0
              clear hb0
              have hb0 := hb0'
              clear hb0'
              have hb1' : (wr.drewN nq).cell? ⟨b', o' + j * 2 + 1, none⟩ = some (.string b2.v) := hb1
              clear hb1
              have hb1 := hb1'
              clear hb1'
              generalize World.drewN wr nq = W2 at *
              go_wp2_with fail
              go_big_quiet (fail)
              have HM4 := Lib.hid (HM2.out.drewN nq)
              clear HM2
              have ha0' : (W2.drewN nq).cell? ⟨b, o + i * 2, none⟩ = some (.string a.k) := ha0
              clear ha0
              have ha0 := ha0'
              clear ha0'
              have ha1' : (W2.drewN nq).cell? ⟨b, o + i * 2 + 1, none⟩ = some (.string a.v) := ha1
              clear ha1
              have ha1 := ha1'
              clear ha1'
              have hb0' : (W2.drewN nq).cell? ⟨b', o' + j * 2, none⟩ = some (.string b2.k) := hb0
              clear hb0
              have hb0 := hb0'
              clear hb0'
              have hb1' : (W2.drewN nq).cell? ⟨b', o' + j * 2 + 1, none⟩ = some (.string b2.v) := hb1
              clear hb1
              have hb1 := hb1'
              clear hb1'
              generalize World.drewN W2 nq = W3 at *
              go_wp2_with fail
              go_big_quiet (fail)
              have HM5 := Lib.hid (HM4.out.drewN nq)
              clear HM4
              have ha0' : (W3.drewN nq).cell? ⟨b, o + i * 2, none⟩ = some (.string a.k) := ha0
              clear ha0
              have ha0 := ha0'
              clear ha0'
              have ha1' : (W3.drewN nq).cell? ⟨b, o + i * 2 + 1, none⟩ = some (.string a.v) := ha1
              clear ha1
              have ha1 := ha1'
              clear ha1'
              have hb0' : (W3.drewN nq).cell? ⟨b', o' + j * 2, none⟩ = some (.string b2.k) := hb0
              clear hb0
              have hb0 := hb0'
              clear hb0'
              have hb1' : (W3.drewN nq).cell? ⟨b', o' + j * 2 + 1, none⟩ = some (.string b2.v) := hb1
              clear hb1
              have hb1 := hb1'
              clear hb1'
              generalize World.drewN W3 nq = W4 at *
              go_wp2_with (first | (go_at_call 43; refine (there_any b2 _).mono ?_; rintro e wt ⟨rfl, hbt⟩; have HMT := Lib.hid (HM5.out.go hbt); clear hbt) | (at_builtin; refine catC (HMT.out.alloc _) [there b2] _ 1 1 rfl (Ls.new _ (there b2) _ _ (Nat.lt_succ_self _)) (by omega) rfl _ _ rfl rfl rfl ?_; intro v3 w3 hM3 hG3; have HM3 := Lib.hid hM3; clear hM3 hG3))
              exact ⟨⟨i + 1, j + 1, O ++ [there b2], by omega, by omega, by go_num, by go_num, HAT.out, HM3.out⟩, by simp [intOf] <;> omega⟩
      · have q3 : ((j : Int) == (m : Int)) = true := by rw [beq_iff_eq]; omega
        have HAT := Lib.hid ((Hid.out hat).left ha (by rw [← HN'.out]; omega))
        clear hat ha hmk
        go_wp2_with fail
        go_big_quiet (fail)
        have HM2 := Lib.hid (HM.out.drewN nq)
        clear HM
        have ha0' : (wr.drewN nq).cell? ⟨b, o + i * 2, none⟩ = some (.string a.k) := ha0
        clear ha0
        have ha0 := ha0'
        clear ha0'
        have ha1' : (wr.drewN nq).cell? ⟨b, o + i * 2 + 1, none⟩ = some (.string a.v) := ha1
        clear ha1
        have ha1 := ha1'
        clear ha1'
        generalize World.drewN wr nq = W2 at *
        go_wp2_with (at_builtin; refine catC (HM2.out.alloc _) [gone a] _ 1 1 rfl (Ls.new _ (gone a) _ _ (Nat.lt_succ_self _)) (by omega) rfl _ _ rfl rfl rfl ?_; intro v3 w3 hM3 hG3; have HM3 := Lib.hid hM3; clear hM3 hG3)
        exact ⟨⟨i + 1, j, O ++ [gone a], by omega, by omega, by go_num, by go_num, HAT.out, HM3.out⟩, by simp [intOf] <;> omega⟩
    · have q1 : ((i : Int) == (n : Int)) = true := by rw [beq_iff_eq]; omega
      have q2 : decide ((i : Int) < (n : Int)) = false := by rw [decide_eq_false_iff_not]; omega
      by_cases hjm : j < m
      · have q3 : ((j : Int) == (m : Int)) = false := by rw [beq_eq_false_iff_ne]; omega
        obtain ⟨b2, hb2⟩ : ∃ b2, Y[j]? = some b2 := ⟨_, List.getElem?_eq_getElem (by rw [← HN'.out]; exact hjm)⟩
        obtain ⟨b', o', hAe, hb', hr⟩ := (HY.out.below ((Hid.out hmk).2.mono hB')) j b2 hb2
        have hb0 : wr.cell? ⟨b', o' + j * 2, none⟩ = some (.string b2.k) := hr 0 _ rfl
        have hb1 : wr.cell? ⟨b', o' + j * 2 + 1, none⟩ = some (.string b2.v) := hr 1 _ rfl
        clear hr
        subst hAe
        have HAT := Lib.hid ((Hid.out hat).right (by rw [← HN.out]; omega) hb2)
        clear hat hb2 hmk
        go_wp2_with fail
        go_big_quiet (fail)
        have HM2 := Lib.hid (HM.out.drewN nq)
        clear HM
        have hb0' : (wr.drewN nq).cell? ⟨b', o' + j * 2, none⟩ = some (.string b2.k) := hb0
        clear hb0
        have hb0 := hb0'
        clear hb0'
        have hb1' : (wr.drewN nq).cell? ⟨b', o' + j * 2 + 1, none⟩ = some (.string b2.v) := hb1
        clear hb1
        have hb1 := hb1'
        clear hb1'
        generalize World.drewN wr nq = W2 at *
        go_wp2_with fail
        go_big_quiet (fail)
        have HM4 := Lib.hid (HM2.out.drewN nq)
        clear HM2
        have hb0' : (W2.drewN nq).cell? ⟨b', o' + j * 2, none⟩ = some (.string b2.k) := hb0
        clear hb0
        have hb0 := hb0'
        clear hb0'
        have hb1' : (W2.drewN nq).cell? ⟨b', o' + j * 2 + 1, none⟩ = some (.string b2.v) := hb1
        clear hb1
        have hb1 := hb1'
        clear hb1'
        generalize World.drewN W2 nq = W3 at *
        go_wp2_with (first | (go_at_call 43; refine (there_any b2 _).mono ?_; rintro e wt ⟨rfl, hbt⟩; have HMT := Lib.hid (HM4.out.go hbt); clear hbt) | (at_builtin; refine catC (HMT.out.alloc _) [there b2] _ 1 1 rfl (Ls.new _ (there b2) _ _ (Nat.lt_succ_self _)) (by omega) rfl _ _ rfl rfl rfl ?_; intro v3 w3 hM3 hG3; have HM3 := Lib.hid hM3; clear hM3 hG3))
        exact ⟨⟨i, j + 1, O ++ [there b2], by omega, by omega, by go_num, by go_num, HAT.out, HM3.out⟩, by simp [intOf] <;> omega⟩
      · have q3 : ((j : Int) == (m : Int)) = true := by rw [beq_iff_eq]; omega
        have HO := Lib.hid ((Hid.out hat).done (by rw [← HN.out]; omega) (by rw [← HN'.out]; omega))
        clear hat
        go_wp2
        rw [Exit.noGoto_ret]
        go_ret
        exact ⟨_, rfl, by rw [← HO.out]; exact HM.out⟩
end Go.Proofs.Ytpchkmjpmlbbgaa.It
