/- Contract of package item's changed: a list with changes done that rise by key. -/
import Derived.Test.YtcnggidihkcndaaGreatDoorItO
import Derived.Test.YtcnggidihkcndaaGreatDoorItR
import Derived.Test.YtcnggidihkcndaaGreatDoorChM
namespace Go.Proofs.YtcnggidihkcndaaGreatDoor.It
set_option linter.unusedVariables false
set_option maxRecDepth 100000
open Go.ChangeShapes Go.WideShapes Go.ChangeAt Go.RowKit
open Ar Rg St
open BigFrame
/-- what is left of the list and of the changes, what has been put -/
def AtA (D : List Itm) (L : List Ch) (i : Nat) (R O : List Itm) : Prop := UpK key R ∧ O ++ app R (L.drop i) = app D L ∧ R.length + O.length ≤ D.length + i
theorem AtA.step {D R O : List Itm} {L : List Ch} {i p : Nat} {c : Ch} (h : AtA D L i R O) (hL : UpK Sc.key L) (hc : L[i]? = some c) (hp : At R c.k p) :
    AtA D L (i + 1) (R.drop (p + if found R c.k p then 1 else 0)) (O ++ R.take p ++ (if c.h then [itm c] else [])) := by
  obtain ⟨h1, h2, h3⟩ := h
  refine ⟨h1.sub (List.drop_sublist _ _), ?_, ?_⟩
  · rw [← h2, drop_atC hc, app_step h1 (by rw [← drop_atC hc]; exact hL.sub (List.drop_sublist _ _)) hp]
    simp only [List.append_assoc]
  · have : (if c.h then [itm c] else []).length ≤ 1 := by split <;> simp
    have hp1 := hp.1
    simp only [List.length_drop, List.length_append, List.length_take]
    omega
theorem found_lt {R : List Itm} {k : ByteArray} {p : Nat} (h : found R k p = true) : p < R.length := by
  unfold found at h
  cases hx : R[p]? with
  | none => rw [hx] at h; cases h
  | some y => exact (List.getElem?_eq_some_iff.1 hx).1
set_option linter.unusedSimpArgs false in
set_option maxRecDepth 100000 in
set_option maxHeartbeats 2000000 in
theorem changed_any (D : List Itm) (L : List Ch) (A A' : Option Addr) (n c n' c' B B' : Nat) (hn : n = D.length) (hc : n ≤ c) (hcm : c ≤ maxLen) (hn' : n' = L.length) (hlen : n ≤ 1099511627776) (hlen' : n' ≤ 1099511627776) (hD : UpK key D) (hL : UpK Sc.key L)
    (w : World) (hB : B ≤ w.heap.size) (hB' : B' ≤ w.heap.size) (hA : Ls enc 2 w B A D) (hA' : Ls Sc.enc 3 w B' A' L) :
    Calls Tryz.prog 18 #[.slice A n c, .slice A' n' c'] w fun e w' => ∃ v, e = .returned v ∧ MkI w w' v (app D L) := by
  unfold maxLen at hcm
  have HN' := Lib.hid hn'
  have HD := Lib.hid hD
  have HDL := Lib.hid (show D.length ≤ 1099511627776 by omega)
  have HL := Lib.hid hL
  have HA' := Lib.hid hA'
  have H0 := Lib.hid (show n = D.length ∧ n ≤ c ∧ c ≤ 9223372036854775807 ∧ Ls enc 2 w B A D from ⟨hn, hc, hcm, hA⟩)
  clear hn hn' hD hL hA hA' hc hcm
  go_enter Tryz.func18, Tryz.ntmps18
  go_wp2_with fail
  go_loopw [0, 5, 12] (fun lv ov v wr => ∃ (i : Nat) (R O : List Itm) (A : Option Addr) (n c : Nat), i ≤ n' ∧ v = .int .i64 i ∧ lv = .slice A n c ∧ Hid (n = R.length ∧ n ≤ c ∧ c ≤ 9223372036854775807 ∧ Ls enc 2 w B A R) ∧ Hid (AtA D L i R O) ∧ Hid (MkI w wr ov O)) (fun _ _ v _ => n' - (intOf v).toNat)
  case atStart => exact ⟨0, D, [], A, n, c, Nat.zero_le _, by go_num, rfl, H0.out, ⟨HD.out, rfl, by simp⟩, Mk.nil (Below.refl _ _)⟩
  case round =>
    clear H0
    obtain ⟨i, R, O, A, n, c, hi, rfl, rfl, hl, hat, hm⟩ := hrel
    by_cases hlt : i < n'
    · obtain ⟨x, hx⟩ : ∃ x, L[i]? = some x := ⟨_, List.getElem?_eq_getElem (by rw [← HN'.out]; exact hlt)⟩
      obtain ⟨b, o, hAe, hb, hr⟩ := (HA'.out.below ((Hid.out hm).2.mono hB')) i x hx
      have hbs : b < wr.heap.size := Nat.lt_of_lt_of_le hb (Nat.le_trans hB' (Hid.out hm).2.size)
      have hc0 : wr.cell? ⟨b, o + i * 3, none⟩ = some (.string x.k) := hr 0 _ rfl
      have hc1 : wr.cell? ⟨b, o + i * 3 + 1, none⟩ = some (.bool x.h) := hr 1 _ rfl
      have hc2 : wr.cell? ⟨b, o + i * 3 + 2, none⟩ = some (.string x.v) := hr 2 _ rfl
      clear hr
      subst hAe
      have HM := Lib.hid (show MkI w (wr.alloc (.cells #[.string x.k, .bool x.h, .string x.v] 43)) _ O from (Hid.out hm).alloc _)
      have hd0 : (wr.alloc (.cells #[.string x.k, .bool x.h, .string x.v] 43)).cell? ⟨wr.heap.size, 0, none⟩ = some (.string x.k) := by simp
      have hd1 : (wr.alloc (.cells #[.string x.k, .bool x.h, .string x.v] 43)).cell? ⟨wr.heap.size, 1, none⟩ = some (.bool x.h) := by simp
      have hd2 : (wr.alloc (.cells #[.string x.k, .bool x.h, .string x.v] 43)).cell? ⟨wr.heap.size, 2, none⟩ = some (.string x.v) := by simp
      have hncc := (Hid.out hl).2.1
      have hcm := (Hid.out hl).2.2.1
      go_wp2_with fail
      go_at_call 31
      refine (place_any R x.k A n c B (Hid.out hl).1 (by have := (Hid.out hl).1; have := (Hid.out hat).2.2; have := HN'.out; have := HDL.out; omega) (up_srt (Hid.out hat).1) _ (by have := (Hid.out hm).2.size; simp; omega) ((Hid.out hl).2.2.2.below ((Hid.out HM.out).2.mono hB))).mono ?_
      rintro e w2 ⟨p, hp, rfl, hb2⟩
      have HM2 := Lib.hid (HM.out.go hb2)
      have hpn : p ≤ n := by rw [(Hid.out hl).1]; exact hp.1
      have HP := Lib.hid hp
      have hlt2 : wr.heap.size < w2.heap.size := by have := hb2.size; simp at this; omega
      have he0 : w2.cell? ⟨wr.heap.size, 0, none⟩ = some (.string x.k) := (hb2.cell (p := ⟨wr.heap.size, 0, none⟩) (by simp)).trans hd0
      have he1 : w2.cell? ⟨wr.heap.size, 1, none⟩ = some (.bool x.h) := (hb2.cell (p := ⟨wr.heap.size, 1, none⟩) (by simp)).trans hd1
      have he2 : w2.cell? ⟨wr.heap.size, 2, none⟩ = some (.string x.v) := (hb2.cell (p := ⟨wr.heap.size, 2, none⟩) (by simp)).trans hd2
      clear hb2 HM hp hd0 hd1 hd2 hc0 hc1 hc2
      have hop : O.length + n ≤ 2199023255552 := by
        have h1 := (Hid.out hl).1
        have h2 := (Hid.out hat).2.2
        have h3 := HDL.out
        omega
      have htl : (R.take p).length = p := by rw [List.length_take]; have := (Hid.out hl).1; omega
      have HTL := Lib.hid htl.symm
      clear htl
      obtain ⟨A1, hif⟩ : ∃ A1, (if c = p then A else Option.map (fun x => x.add (p * 2)) A) = A1 := ⟨_, rfl⟩
      have HL1 := Lib.hid (show Ls enc 2 w B A1 (R.drop p) from hif ▸ (Hid.out hl).2.2.2.drop (Hid.out hl).1 hncc hpn)
      have hst := (Hid.out hat).step HL.out hx HP.out
      by_cases hf : found R x.k p = true
      · have hp1 : p < n := by rw [(Hid.out hl).1]; exact found_lt hf
        have hone : (1 : Int) ≤ ((n - p : Nat) : Int) := by omega
        rw [if_neg (by omega)] at hif
        obtain ⟨A2, hif2⟩ : ∃ A2, (if c - p = 1 then A1 else Option.map (fun x => ({ block := x.block, off := x.off + 2 } : Addr)) A1) = A2 := ⟨_, rfl⟩
        have HL2 := Lib.hid (show Ls enc 2 w B A2 (R.drop (p + 1)) from by
          rw [← hif2, ← List.drop_drop]
          exact HL1.out.drop (n := n - p) (c := c - p) (p := 1) (by rw [List.length_drop, ← (Hid.out hl).1]) (by omega) (by omega))
        by_cases hh : x.h = true
        · rw [hh] at he1
          simp only [hf, hh, if_true, Bool.false_eq_true, if_false, Nat.add_zero, List.append_nil] at hst
          have HST := Lib.hid hst
          clear hst hx
          go_wp2_with (first | (at_builtin; refine catI (HM3.out.alloc _) [itm x] _ 1 1 rfl (Ls.new _ (itm x) _ _ (Nat.lt_succ_self _)) (by simp only [List.length_append, List.length_take]; omega) rfl _ _ rfl rfl rfl ?_; intro v4 w4 hM4 hG4; have HM4 := Lib.hid hM4; clear hM4 hG4) | (at_builtin; refine catI HM2.out (R.take p) A p c HTL.out ((((Hid.out hl).2.2.2.take p).below (HM2.out.2.mono hB))) (by omega) rfl _ _ rfl rfl rfl ?_; intro v3 w3 hM3 hG3; have HM3 := Lib.hid hM3; have hd0 := (Hid.out hm).keep hG3 (Nat.le_refl _) he0; have hd1 := (Hid.out hm).keep hG3 (Nat.le_refl _) he1; have hd2 := (Hid.out hm).keep hG3 (Nat.le_refl _) he2; clear hM3 hG3 he0 he1 he2))
          exact ⟨⟨i + 1, R.drop (p + 1), O ++ R.take p ++ [itm x], A2, n - p - 1, c - p - 1, by omega, by go_num, rfl, ⟨by rw [List.length_drop, ← (Hid.out hl).1] <;> omega, by omega, by omega, HL2.out⟩, HST.out, HM4.out⟩, by simp [intOf] <;> omega⟩
        · have hh : x.h = false := by simpa using hh
          rw [hh] at he1
          simp only [hf, hh, if_true, Bool.false_eq_true, if_false, Nat.add_zero, List.append_nil] at hst
          have HST := Lib.hid hst
          clear hst hx
          go_wp2_with (at_builtin; refine catI HM2.out (R.take p) A p c HTL.out ((((Hid.out hl).2.2.2.take p).below (HM2.out.2.mono hB))) (by omega) rfl _ _ rfl rfl rfl ?_; intro v3 w3 hM3 hG3; have HM3 := Lib.hid hM3; have hd0 := (Hid.out hm).keep hG3 (Nat.le_refl _) he0; have hd1 := (Hid.out hm).keep hG3 (Nat.le_refl _) he1; have hd2 := (Hid.out hm).keep hG3 (Nat.le_refl _) he2; clear hM3 hG3 he0 he1 he2)
          exact ⟨⟨i + 1, R.drop (p + 1), O ++ R.take p, A2, n - p - 1, c - p - 1, by omega, by go_num, rfl, ⟨by rw [List.length_drop, ← (Hid.out hl).1] <;> omega, by omega, by omega, HL2.out⟩, HST.out, HM3.out⟩, by simp [intOf] <;> omega⟩
      · have hf : found R x.k p = false := by simpa using hf
        by_cases hh : x.h = true
        · rw [hh] at he1
          simp only [hf, hh, if_true, Bool.false_eq_true, if_false, Nat.add_zero, List.append_nil] at hst
          have HST := Lib.hid hst
          clear hst hx
          go_wp2_with (first | (at_builtin; refine catI (HM3.out.alloc _) [itm x] _ 1 1 rfl (Ls.new _ (itm x) _ _ (Nat.lt_succ_self _)) (by simp only [List.length_append, List.length_take]; omega) rfl _ _ rfl rfl rfl ?_; intro v4 w4 hM4 hG4; have HM4 := Lib.hid hM4; clear hM4 hG4) | (at_builtin; refine catI HM2.out (R.take p) A p c HTL.out ((((Hid.out hl).2.2.2.take p).below (HM2.out.2.mono hB))) (by omega) rfl _ _ rfl rfl rfl ?_; intro v3 w3 hM3 hG3; have HM3 := Lib.hid hM3; have hd0 := (Hid.out hm).keep hG3 (Nat.le_refl _) he0; have hd1 := (Hid.out hm).keep hG3 (Nat.le_refl _) he1; have hd2 := (Hid.out hm).keep hG3 (Nat.le_refl _) he2; clear hM3 hG3 he0 he1 he2))
          exact ⟨⟨i + 1, R.drop p, O ++ R.take p ++ [itm x], A1, n - p, c - p, by omega, by go_num, rfl, ⟨by rw [List.length_drop, ← (Hid.out hl).1] <;> omega, by omega, by omega, HL1.out⟩, HST.out, HM4.out⟩, by simp [intOf] <;> omega⟩
        · have hh : x.h = false := by simpa using hh
          rw [hh] at he1
          simp only [hf, hh, if_true, Bool.false_eq_true, if_false, Nat.add_zero, List.append_nil] at hst
          have HST := Lib.hid hst
          clear hst hx
          go_wp2_with (at_builtin; refine catI HM2.out (R.take p) A p c HTL.out ((((Hid.out hl).2.2.2.take p).below (HM2.out.2.mono hB))) (by omega) rfl _ _ rfl rfl rfl ?_; intro v3 w3 hM3 hG3; have HM3 := Lib.hid hM3; have hd0 := (Hid.out hm).keep hG3 (Nat.le_refl _) he0; have hd1 := (Hid.out hm).keep hG3 (Nat.le_refl _) he1; have hd2 := (Hid.out hm).keep hG3 (Nat.le_refl _) he2; clear hM3 hG3 he0 he1 he2)
          exact ⟨⟨i + 1, R.drop p, O ++ R.take p, A1, n - p, c - p, by omega, by go_num, rfl, ⟨by rw [List.length_drop, ← (Hid.out hl).1] <;> omega, by omega, by omega, HL1.out⟩, HST.out, HM3.out⟩, by simp [intOf] <;> omega⟩
    · have HO := Lib.hid (show O ++ R = app D L by
        have h := (Hid.out hat).2.1
        rw [List.drop_eq_nil_of_le (by rw [← HN'.out]; omega)] at h
        exact h)
      have hop : O.length + n ≤ 4398046511104 := by
        have h1 := (Hid.out hl).1
        have h2 := (Hid.out hat).2.2
        have h3 := HDL.out
        omega
      go_wp2_with (at_builtin; refine catI (Hid.out hm) R A n c (Hid.out hl).1 ((Hid.out hl).2.2.2.below ((Hid.out hm).2.mono hB)) (by omega) rfl _ _ rfl rfl rfl ?_; intro v3 w3 hM3 hG3; have HM3 := Lib.hid hM3; clear hM3 hG3)
      go_ret
      exact ⟨_, rfl, by rw [← HO.out]; exact HM3.out⟩
end Go.Proofs.YtcnggidihkcndaaGreatDoor.It
/- Contract of package item's lastOfEach: of each key the change that is done last, by key. -/
namespace Go.Proofs.YtcnggidihkcndaaGreatDoor.It
set_option linter.unusedVariables false
set_option maxRecDepth 100000
open Go.ChangeShapes Go.WideShapes Go.ChangeAt Go.RowKit
open Ar Rg St
open BigFrame
set_option maxRecDepth 100000 in
set_option maxHeartbeats 1000000 in
theorem stable_none (w : World) :
    Calls Tryz.prog 47 #[.slice none 0 0, .int .i64 0, Sc.CMP] w fun e w' => e = .returned (.tuple #[]) ∧ w = w' := by
  unfold Sc.CMP
  go_enter Tryz.func47, Tryz.ntmps47
  go_wp2_with fail
  refine wp_loop_rounds 1 ?_
  rw [rounds_succ]
  go_wp2_with fail
  go_at_call 62
  refine (Sc.insertion_none 0 _ _ (by omega) _).mono ?_
  rintro e w1 ⟨rfl, rfl⟩
  go_wp2_with fail
  refine wp_loop_rounds 1 ?_
  rw [rounds_succ]
  go_wp2
  exact ⟨rfl, _, results_none rfl _ _ _, rfl, rfl⟩
theorem sort_none (w : World) :
    Calls Tryz.prog 32 #[.slice none 0 0, Sc.CMP] w fun e w' => e = .returned (.tuple #[]) ∧ w = w' := by
  have HC := Lib.hid (stable_none w)
  unfold Sc.CMP at *
  go_enter Tryz.func32, Tryz.ntmps32
  go_wp2_with fail
  go_at_call 47
  refine HC.out.mono ?_
  rintro e w1 ⟨rfl, rfl⟩
  go_wp2
  exact ⟨rfl, _, results_none rfl _ _ _, rfl, rfl⟩
/-- what the sort leaves: a slice that was made, by key, of each key the same -/
def SortedTo (C : List Ch) (w0 : World) (v : Value) (w' : World) : Prop := ∃ (A : Option Addr) (c : Nat) (S : List Ch), v = .slice A C.length c ∧ S.length = C.length ∧ Srt Sc.key lt S ∧ Sm Sc.key C S ∧ Ls Sc.enc 3 w' w'.heap.size A S ∧ Below w0.heap.size w0 w'
theorem sorted_any (C : List Ch) (w0 w : World) (v : Value) (hM : MkC w0 w v C) (hlen : C.length ≤ 1099511627776) :
    Calls Tryz.prog 32 #[v, Sc.CMP] w fun e w' => e = .returned (.tuple #[]) ∧ SortedTo C w0 v w' := by
  rcases hM.arr Sc.enc_len with ⟨rfl, rfl⟩ | ⟨g, c, rfl, hc, hcm, hg, hlt, hA⟩
  · refine (sort_none w).mono fun e w' h => ?_
    obtain ⟨h1, rfl⟩ := h
    exact ⟨h1, none, 0, [], rfl, rfl, Srt.nil, Sm.refl _, Ls.nil, hM.2⟩
  · refine (Sc.sort_any C g c C.length rfl hc (by omega) w hA).mono fun e w' h => ?_
    obtain ⟨h1, S, h2, h3, h4, h5, h6⟩ := h
    refine ⟨h1, some ⟨g, 0, none⟩, c, S, rfl, h3, h4, h5, Ls.of_arr h2 (Nat.lt_of_lt_of_le hlt h6.size), hM.2.grown h6 hM.2.size ?_⟩
    intro q hq
    cases hq
    exact hg
theorem lasts_len : ∀ S : List Ch, (lasts S).length ≤ S.length
  | [] => Nat.le_refl _
  | [c] => by simp [lasts]
  | c :: d :: r => by
    have ih := lasts_len (d :: r)
    rw [lasts, List.length_append]
    have : (if ckey d = ckey c then [] else [c]).length ≤ 1 := by split <;> simp
    simp only [List.length_cons] at ih ⊢
    omega
def AtL (S : List Ch) (i : Nat) (O : List Ch) : Prop := O ++ lasts (S.drop i) = lasts S
theorem AtL.le {S O : List Ch} {i : Nat} (h : AtL S i O) : O.length ≤ S.length := by
  have := congrArg List.length h
  rw [List.length_append] at this
  have := lasts_len S
  omega
theorem AtL.put_last {S O : List Ch} {i : Nat} {x : Ch} (h : AtL S i O) (hx : S[i]? = some x) (hl : i + 1 = S.length) : AtL S (i + 1) (O ++ [x]) := by
  unfold AtL at h ⊢
  rw [← h, drop_atC hx, List.drop_eq_nil_of_le (by omega)]
  simp [lasts]
theorem AtL.put {S O : List Ch} {i : Nat} {x y : Ch} (h : AtL S i O) (hx : S[i]? = some x) (hy : S[i + 1]? = some y) (hk : ckey y ≠ ckey x) : AtL S (i + 1) (O ++ [x]) := by
  unfold AtL at h ⊢
  rw [← h, drop_atC hx, drop_atC hy, lasts, if_neg hk, List.append_assoc]
theorem AtL.pass {S O : List Ch} {i : Nat} {x y : Ch} (h : AtL S i O) (hx : S[i]? = some x) (hy : S[i + 1]? = some y) (hk : ckey y = ckey x) : AtL S (i + 1) O := by
  unfold AtL at h ⊢
  rw [← h, drop_atC hx, drop_atC hy, lasts, if_pos hk, List.nil_append]
theorem AtL.done {S O : List Ch} {i : Nat} (h : AtL S i O) (hi : S.length ≤ i) : O = lasts S := by
  unfold AtL at h
  rw [List.drop_eq_nil_of_le hi] at h
  rw [← h]; simp [lasts]
set_option maxRecDepth 100000 in
set_option maxHeartbeats 1000000 in
theorem lastOfEach_any (C : List Ch) (A : Option Addr) (n c B : Nat) (hn : n = C.length) (hlen : n ≤ 1099511627776) (w : World) (hB : B ≤ w.heap.size) (hC : Ls Sc.enc 3 w B A C) :
    Calls Tryz.prog 19 #[.slice A n c] w fun e w' => ∃ v S, e = .returned v ∧ Srt Sc.key lt S ∧ Sm Sc.key C S ∧ S.length = n ∧ MkC w w' v (lasts S) := by
  have HN := Lib.hid hn
  have HC := Lib.hid hC
  clear hn hC
  go_enter Tryz.func19, Tryz.ntmps19
  go_wp2_with (at_builtin; refine catC (Mk.nil (Below.refl _ _)) C A n c HN.out HC.out (by simp; omega) rfl _ _ rfl rfl rfl ?_; intro v1 w1 hM1 hG1; have HM1 := Lib.hid hM1; clear hM1 hG1)
  go_at_call 32
  refine (sorted_any C w w1 v1 HM1.out (by rw [← HN.out]; exact hlen)).mono ?_
  rintro e w2 ⟨rfl, hs⟩
  obtain ⟨A2, c2, S, hv1, hSl, hSs, hSm, hSL, hSb⟩ := hs
  have HS := Lib.hid (And.intro hSs hSm)
  have HSL := Lib.hid hSL
  have HSB := Lib.hid hSb
  have HSN := Lib.hid (show n = S.length by rw [hSl]; exact HN.out)
  rw [← HN.out] at hv1
  clear hSs hSm hSL hSb hSl HM1
  subst hv1
  go_wp2_with fail
  go_loopw [4, 13] (fun ov v wr => ∃ (i : Nat) (O : List Ch), i ≤ n ∧ v = .int .i64 i ∧ Hid (AtL S i O) ∧ Hid (MkC w2 wr ov O)) (fun _ v _ => n - (intOf v).toNat)
  case atStart => exact ⟨0, [], Nat.zero_le _, by go_num, rfl, Mk.nil (Below.refl _ _)⟩
  case round =>
    obtain ⟨i, O, hi, rfl, hat, hm⟩ := hrel
    by_cases hlt : i < n
    · obtain ⟨x, hx⟩ : ∃ x, S[i]? = some x := ⟨_, List.getElem?_eq_getElem (by rw [← HSN.out]; exact hlt)⟩
      have hL := HSL.out.below (Hid.out hm).2
      obtain ⟨b, o, hAe, hb, hr⟩ := hL i x hx
      have hbs : b < wr.heap.size := Nat.lt_of_lt_of_le hb (Hid.out hm).2.size
      have hc0 : wr.cell? ⟨b, o + i * 3, none⟩ = some (.string x.k) := hr 0 _ rfl
      have hc1 : wr.cell? ⟨b, o + i * 3 + 1, none⟩ = some (.bool x.h) := hr 1 _ rfl
      have hc2 : wr.cell? ⟨b, o + i * 3 + 2, none⟩ = some (.string x.v) := hr 2 _ rfl
      have HL := Lib.hid hL
      clear hL hr
      subst hAe
      have HM := Lib.hid (show MkC w2 (wr.alloc (.cells #[.string x.k, .bool x.h, .string x.v] 43)) _ O from (Hid.out hm).alloc _)
      have hd0 : (wr.alloc (.cells #[.string x.k, .bool x.h, .string x.v] 43)).cell? ⟨wr.heap.size, 0, none⟩ = some (.string x.k) := by simp
      have hd1 : (wr.alloc (.cells #[.string x.k, .bool x.h, .string x.v] 43)).cell? ⟨wr.heap.size, 1, none⟩ = some (.bool x.h) := by simp
      have hd2 : (wr.alloc (.cells #[.string x.k, .bool x.h, .string x.v] 43)).cell? ⟨wr.heap.size, 2, none⟩ = some (.string x.v) := by simp
      have hol : O.length ≤ n := by have := (Hid.out hat).le; rw [← HSN.out] at this; exact this
      by_cases hl : i + 1 = n
      · have hq : (((i : Int) + 1) == (n : Int)) = true := by rw [beq_iff_eq]; omega
        have HA := Lib.hid ((Hid.out hat).put_last hx (by rw [← HSN.out]; exact hl))
        clear hat hx hl
        go_wp2_with fail
        generalize wr.alloc _ = W1 at *
        go_big_quiet (fail)
        have HM2 := Lib.hid (HM.out.drewN nq)
        clear HM hm
        go_wp2_with (at_builtin; refine catC (HM2.out.alloc _) [x] _ 1 1 rfl (Ls.new _ x _ _ (Nat.lt_succ_self _)) (by omega) rfl _ _ rfl rfl rfl ?_; intro v3 w3 hM3 hG3; have HM3 := Lib.hid hM3; clear hM3 hG3)
        exact ⟨⟨i + 1, O ++ [x], by omega, by go_num, HA.out, HM3.out⟩, by simp [intOf] <;> omega⟩
      · obtain ⟨j, hj⟩ : ∃ j, i + 1 = j := ⟨_, rfl⟩
        have hj1 : (i : Int) + 1 = (j : Int) := by omega
        have hj3 : (j : Int) < (n : Int) := by omega
        have hq : ((j : Int) == (n : Int)) = false := by rw [beq_eq_false_iff_ne]; omega
        obtain ⟨y, hy⟩ : ∃ y, S[j]? = some y := ⟨_, List.getElem?_eq_getElem (by rw [← HSN.out]; omega)⟩
        obtain ⟨b2, o2, hAe, hb2, hr⟩ := HL.out j y hy
        cases hAe
        have hcy : (wr.alloc (.cells #[.string x.k, .bool x.h, .string x.v] 43)).cell? ⟨b, o + j * 3, none⟩ = some (.string y.k) := by
          rw [World.cell?_alloc_lt _ _ _ hbs]
          exact hr 0 _ rfl
        clear hr
        rw [← hj] at hy
        by_cases hk : ckey y = ckey x
        · have he : (y.k.toList == x.k.toList) = true := by rw [str_eq]; exact decide_eq_true hk
          have HA := Lib.hid ((Hid.out hat).pass hx hy hk)
          rw [hj] at HA
          clear hat hx hy hk hl
          go_wp2_with fail
          generalize wr.alloc _ = W1 at *
          go_big_quiet (fail)
          have HM2 := Lib.hid (HM.out.drewN nq)
          clear HM hm
          go_wp2
          exact ⟨⟨j, O, by omega, rfl, HA.out, HM2.out⟩, by simp [intOf] <;> omega⟩
        · have he : (y.k.toList == x.k.toList) = false := by rw [str_eq]; exact decide_eq_false hk
          have HA := Lib.hid ((Hid.out hat).put hx hy hk)
          rw [hj] at HA
          clear hat hx hy hk hl
          go_wp2_with fail
          generalize wr.alloc _ = W1 at *
          go_big_quiet (fail)
          have HM2 := Lib.hid (HM.out.drewN nq)
          clear HM hm
          go_wp2_with (at_builtin; refine catC (HM2.out.alloc _) [x] _ 1 1 rfl (Ls.new _ x _ _ (Nat.lt_succ_self _)) (by omega) rfl _ _ rfl rfl rfl ?_; intro v3 w3 hM3 hG3; have HM3 := Lib.hid hM3; clear hM3 hG3)
          exact ⟨⟨j, O ++ [x], by omega, rfl, HA.out, HM3.out⟩, by simp [intOf] <;> omega⟩
    · have HO := Lib.hid ((Hid.out hat).done (by rw [← HSN.out]; omega))
      have HM := Lib.hid ((Hid.out hm).since HSB.out)
      clear hat hm
      go_wp2
      go_ret
      exact ⟨_, S, rfl, HS.out.1, HS.out.2, HSN.out.symm, by rw [← HO.out]; exact HM.out⟩
end Go.Proofs.YtcnggidihkcndaaGreatDoor.It
/- Contracts of package item's there, apart, Diff and Apply. -/
namespace Go.Proofs.YtcnggidihkcndaaGreatDoor.It
set_option linter.unusedVariables false
set_option maxRecDepth 100000
open Go.ChangeShapes Go.WideShapes Go.ChangeAt Go.RowKit
open Ar Rg St
open BigFrame
/-- what has been put, what is left of the two -/
def AtD (A B : List Itm) (i j : Nat) (O : List Ch) : Prop := O ++ dif (A.drop i) (B.drop j) = dif A B ∧ O.length ≤ i + j
theorem AtD.left {A B : List Itm} {i j : Nat} {O : List Ch} {a : Itm} (h : AtD A B i j O) (ha : A[i]? = some a) (hj : B.length ≤ j) : AtD A B (i + 1) j (O ++ [gone a]) := by
  obtain ⟨h1, h2⟩ := h
  refine ⟨?_, by simp; omega⟩
  rw [← h1, drop_at ha, List.drop_eq_nil_of_le hj, dif_left, List.append_assoc]; rfl
theorem AtD.ahead {A B : List Itm} {i j : Nat} {O : List Ch} {a b : Itm} (h : AtD A B i j O) (ha : A[i]? = some a) (hb : B[j]? = some b) (hl : lt (key a) (key b) = true) : AtD A B (i + 1) j (O ++ [gone a]) := by
  obtain ⟨h1, h2⟩ := h
  refine ⟨?_, by simp; omega⟩
  rw [← h1, drop_at ha, drop_at hb, dif_lt _ _ hl, List.append_assoc]; rfl
theorem AtD.right {A B : List Itm} {i j : Nat} {O : List Ch} {b : Itm} (h : AtD A B i j O) (hi : A.length ≤ i) (hb : B[j]? = some b) : AtD A B i (j + 1) (O ++ [there b]) := by
  obtain ⟨h1, h2⟩ := h
  refine ⟨?_, by simp; omega⟩
  rw [← h1, List.drop_eq_nil_of_le hi, drop_at hb, dif_right, List.append_assoc]; rfl
theorem AtD.behind {A B : List Itm} {i j : Nat} {O : List Ch} {a b : Itm} (h : AtD A B i j O) (ha : A[i]? = some a) (hb : B[j]? = some b) (hl : lt (key b) (key a) = true) : AtD A B i (j + 1) (O ++ [there b]) := by
  obtain ⟨h1, h2⟩ := h
  refine ⟨?_, by simp; omega⟩
  rw [← h1, drop_at ha, drop_at hb, dif_gt _ _ hl, List.append_assoc]; rfl
theorem AtD.same {A B : List Itm} {i j : Nat} {O : List Ch} {a b : Itm} (h : AtD A B i j O) (ha : A[i]? = some a) (hb : B[j]? = some b) (hk : key a = key b) (hv : a.v.data.toList = b.v.data.toList) : AtD A B (i + 1) (j + 1) O := by
  obtain ⟨h1, h2⟩ := h
  refine ⟨?_, by omega⟩
  rw [← h1, drop_at ha, drop_at hb, dif_same _ _ hk hv]
theorem AtD.other {A B : List Itm} {i j : Nat} {O : List Ch} {a b : Itm} (h : AtD A B i j O) (ha : A[i]? = some a) (hb : B[j]? = some b) (hk : key a = key b) (hv : a.v.data.toList ≠ b.v.data.toList) : AtD A B (i + 1) (j + 1) (O ++ [there b]) := by
  obtain ⟨h1, h2⟩ := h
  refine ⟨?_, by simp; omega⟩
  rw [← h1, drop_at ha, drop_at hb, dif_other _ _ hk hv, List.append_assoc]; rfl
theorem AtD.done {A B : List Itm} {i j : Nat} {O : List Ch} (h : AtD A B i j O) (hi : A.length ≤ i) (hj : B.length ≤ j) : O = dif A B := by
  have h1 := h.1
  rw [List.drop_eq_nil_of_le hi, List.drop_eq_nil_of_le hj, dif_nil [], List.append_nil] at h1
  exact h1
theorem O_tri {a b : List UInt8} (h : lt a b = false) (h' : lt b a = false) : a = b := O.tri _ _ h h'
theorem bl_of {a b : ByteArray} {q : Bool} (h : lt a.data.toList b.data.toList = q) : Op.bytesLess a.toList b.toList = q := by
  rw [ByteArray.toList_eq, ByteArray.toList_eq]; exact h
end Go.Proofs.YtcnggidihkcndaaGreatDoor.It
/- Contracts of package item's Diff and Apply. -/
namespace Go.Proofs.YtcnggidihkcndaaGreatDoor.It
set_option linter.unusedVariables false
set_option maxRecDepth 100000
open Go.ChangeShapes Go.WideShapes Go.ChangeAt Go.RowKit
open Ar Rg St
open BigFrame
set_option maxRecDepth 100000 in
set_option maxHeartbeats 1000000 in
theorem apply_any (D : List Itm) (C : List Ch) (A A' : Option Addr) (n c m c' B B' : Nat) (hn : n = D.length) (hc : n ≤ c) (hcm : c ≤ maxLen) (hm : m = C.length) (hlen : n ≤ 1099511627776) (hlen' : m ≤ 1099511627776) (w : World) (hB : B ≤ w.heap.size) (hB' : B' ≤ w.heap.size) (hX : Ls enc 2 w B A D) (hY : Ls Sc.enc 3 w B' A' C) :
    Calls Tryz.prog 10 #[.slice A n c, .slice A' m c'] w fun e w' => ∃ v, e = .returned (.tuple #[v, .int .i64 (er (rt D && rc C))]) ∧ MkI w w' v (if rt D && rc C then app D C else []) := by
  have HX := Lib.hid hX
  have HY := Lib.hid hY
  have HN := Lib.hid hn
  have HN' := Lib.hid hm
  have HC := Lib.hid (rightList_any D A n c B hn (by omega) w hB hX)
  clear hn hm hX hY
  cases hx : rt D
  · rw [hx] at HC
    clear hx
    go_enter Tryz.func10, Tryz.ntmps10
    go_wp2_with (go_at_call 16; refine HC.out.mono ?_; rintro e w1 ⟨rfl, hb1⟩; have HB1 := Lib.hid hb1; clear hb1)
    go_ret2
    exact ⟨_, rfl, Mk.nil HB1.out⟩
  · have HR := Lib.hid hx
    rw [hx] at HC
    clear hx
    cases hy : rc C
    · go_enter Tryz.func10, Tryz.ntmps10
      go_wp2_with fail
      go_at_call 16
      refine HC.out.mono ?_
      rintro e w1 ⟨rfl, hb1⟩
      have HB1 := Lib.hid hb1
      clear hb1 HC
      go_wp2_with fail
      go_at_call 17
      refine (rightChanges_any C A' m c' B' HN'.out (by omega) w1 (Nat.le_trans hB' HB1.out.size) (HY.out.below (HB1.out.mono hB'))).mono ?_
      rintro e w2 ⟨rfl, hb2⟩
      have HB2 := Lib.hid (HB1.out.trans (hb2.mono HB1.out.size))
      clear hb2 HB1
      rw [hy]
      clear hy
      go_wp2
      go_ret2
      exact ⟨_, rfl, Mk.nil HB2.out⟩
    · go_enter Tryz.func10, Tryz.ntmps10
      go_wp2_with fail
      go_at_call 16
      refine HC.out.mono ?_
      rintro e w1 ⟨rfl, hb1⟩
      have HB1 := Lib.hid hb1
      clear hb1 HC
      go_wp2_with fail
      go_at_call 17
      refine (rightChanges_any C A' m c' B' HN'.out (by omega) w1 (Nat.le_trans hB' HB1.out.size) (HY.out.below (HB1.out.mono hB'))).mono ?_
      rintro e w2 ⟨rfl, hb2⟩
      have HB2 := Lib.hid (HB1.out.trans (hb2.mono HB1.out.size))
      clear hb2 HB1
      rw [hy]
      clear hy
      go_wp2_with fail
      go_at_call 19
      refine (lastOfEach_any C A' m c' B' HN'.out hlen' w2 (Nat.le_trans hB' HB2.out.size) (HY.out.below (HB2.out.mono hB'))).mono ?_
      rintro e w3 ⟨v, S, rfl, hs1, hs2, hs3, hM⟩
      obtain ⟨A2, c2, hv, hc2, hcm2, hL2⟩ := hM.ls Sc.enc_len
      have HM := Lib.hid (hM.since HB2.out)
      have HS := Lib.hid (And.intro hs1 hs2)
      have HL2 := Lib.hid hL2
      have hln : (lasts S).length ≤ 1099511627776 := by have := lasts_len S; omega
      clear hM hs1 hs2 hs3 hL2
      obtain ⟨m2, hm2⟩ : ∃ m2, m2 = (lasts S).length := ⟨_, rfl⟩
      rw [← hm2] at hv hln hc2
      have HM2 := Lib.hid hm2
      subst hv
      clear hm2
      go_wp2_with fail
      go_at_call 18
      refine (changed_any D (lasts S) A A2 n c m2 c2 B _ HN.out hc hcm HM2.out hlen hln (rt_iff.1 HR.out).1 (lasts_spec S HS.out.1).1 w3 (Nat.le_trans hB HM.out.2.size) (Nat.le_refl _) (HX.out.below (HM.out.2.mono hB)) HL2.out).mono ?_
      rintro e w4 ⟨v, rfl, hM⟩
      have HM3 := Lib.hid (show MkI w w4 v (app D C) from (app_lasts (rt_iff.1 HR.out).1 HS.out.1 HS.out.2) ▸ hM.since HM.out.2)
      clear hM
      go_wp2
      go_ret2
      exact ⟨_, rfl, HM3.out⟩
end Go.Proofs.YtcnggidihkcndaaGreatDoor.It
