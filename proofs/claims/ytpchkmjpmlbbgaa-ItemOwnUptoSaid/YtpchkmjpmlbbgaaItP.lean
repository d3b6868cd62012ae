/- Contract of package item's lastOfEach: of each key the change that is done last, by key. -/
import Derived.Test.YtpchkmjpmlbbgaaItO
import Derived.Test.YtpchkmjpmlbbgaaChM
namespace Go.Proofs.Ytpchkmjpmlbbgaa.It
set_option linter.unusedVariables false
open Go.ChangeShapes Go.WideShapes Go.ChangeAt Go.RowKit
open Ar Rg St
open BigFrame
set_option maxRecDepth 100000 in
set_option maxHeartbeats 1000000 in
theorem stable_none (w : World) :
    Calls Try.prog 45 #[.slice none 0 0, .int .i64 0, Sc.CMP] w fun e w' => e = .returned (.tuple #[]) ∧ w = w' := by
  unfold Sc.CMP
  go_enter Try.func45, Try.ntmps45
  go_wp2_with fail
  refine wp_loop_rounds 1 ?_
  rw [rounds_succ]
  go_wp2_with fail
  go_at_call 47
  refine (Sc.insertion_none 0 _ _ (by omega) _).mono ?_
  rintro e w1 ⟨rfl, rfl⟩
  go_wp2_with fail
  refine wp_loop_rounds 1 ?_
  rw [rounds_succ]
  go_wp2
  exact ⟨rfl, _, results_none rfl _ _ _, rfl, rfl⟩
theorem sort_none (w : World) :
    Calls Try.prog 41 #[.slice none 0 0, Sc.CMP] w fun e w' => e = .returned (.tuple #[]) ∧ w = w' := by
  have HC := Lib.hid (stable_none w)
  unfold Sc.CMP at *
  go_enter Try.func41, Try.ntmps41
  go_wp2_with fail
  go_at_call 45
  refine HC.out.mono ?_
  rintro e w1 ⟨rfl, rfl⟩
  go_wp2
  exact ⟨rfl, _, results_none rfl _ _ _, rfl, rfl⟩
/-- what the sort leaves: a slice that was made, by key, of each key the same -/
def SortedTo (C : List Ch) (w0 : World) (v : Value) (w' : World) : Prop := ∃ (A : Option Addr) (c : Nat) (S : List Ch), v = .slice A C.length c ∧ S.length = C.length ∧ Srt Sc.key lt S ∧ Sm Sc.key C S ∧ Ls Sc.enc 3 w' w'.heap.size A S ∧ Below w0.heap.size w0 w'
theorem sorted_any (C : List Ch) (w0 w : World) (v : Value) (hM : MkC w0 w v C) (hlen : C.length ≤ 1099511627776) :
    Calls Try.prog 41 #[v, Sc.CMP] w fun e w' => e = .returned (.tuple #[]) ∧ SortedTo C w0 v w' := by
  rcases hM.arr Sc.enc_len with ⟨rfl, rfl⟩ | ⟨g, c, rfl, hc, hcm, hg, hlt, hA⟩
  · refine (sort_none w).mono fun e w' h => ?_
    obtain ⟨h1, rfl⟩ := h
    exact ⟨h1, none, 0, [], rfl, rfl, Srt.nil, Sm.refl _, Ls.nil, hM.2⟩
  · refine (Sc.sort_any C g c C.length rfl hc (by omega) w hA).mono fun e w' h => ?_
    obtain ⟨h1, S, h2, h3, h4, h5, h6⟩ := h
    refine ⟨h1, some ⟨g, 0, none⟩, c, S, rfl, h3, h4, h5, Ls.of_arr h2 (Nat.lt_of_lt_of_le hlt h6.size), hM.2.grown h6 hM.2.size ?_⟩
    intro q hq
    cases hq
    exact hg
theorem lasts_len : ∀ S : List Ch, (lasts S).length ≤ S.length
  | [] => Nat.le_refl _
  | [c] => by simp [lasts]
  | c :: d :: r => by
    have ih := lasts_len (d :: r)
    rw [lasts, List.length_append]
    have : (if ckey d = ckey c then [] else [c]).length ≤ 1 := by split <;> simp
    simp only [List.length_cons] at ih ⊢
    omega
def AtL (S : List Ch) (i : Nat) (O : List Ch) : Prop := O ++ lasts (S.drop i) = lasts S
theorem AtL.le {S O : List Ch} {i : Nat} (h : AtL S i O) : O.length ≤ S.length := by
  have := congrArg List.length h
  rw [List.length_append] at this
  have := lasts_len S
  omega
theorem AtL.put_last {S O : List Ch} {i : Nat} {x : Ch} (h : AtL S i O) (hx : S[i]? = some x) (hl : i + 1 = S.length) : AtL S (i + 1) (O ++ [x]) := by
  unfold AtL at h ⊢
  rw [← h, drop_atC hx, List.drop_eq_nil_of_le (by omega)]
  simp [lasts]
theorem AtL.put {S O : List Ch} {i : Nat} {x y : Ch} (h : AtL S i O) (hx : S[i]? = some x) (hy : S[i + 1]? = some y) (hk : ckey y ≠ ckey x) : AtL S (i + 1) (O ++ [x]) := by
  unfold AtL at h ⊢
  rw [← h, drop_atC hx, drop_atC hy, lasts, if_neg hk, List.append_assoc]
theorem AtL.pass {S O : List Ch} {i : Nat} {x y : Ch} (h : AtL S i O) (hx : S[i]? = some x) (hy : S[i + 1]? = some y) (hk : ckey y = ckey x) : AtL S (i + 1) O := by
  unfold AtL at h ⊢
  rw [← h, drop_atC hx, drop_atC hy, lasts, if_pos hk, List.nil_append]
theorem AtL.done {S O : List Ch} {i : Nat} (h : AtL S i O) (hi : S.length ≤ i) : O = lasts S := by
  unfold AtL at h
  rw [List.drop_eq_nil_of_le hi] at h
  rw [← h]; simp [lasts]
set_option maxRecDepth 100000 in
set_option maxHeartbeats 1000000 in
theorem lastOfEach_any (C : List Ch) (A : Option Addr) (n c B : Nat) (hn : n = C.length) (hlen : n ≤ 1099511627776) (w : World) (hB : B ≤ w.heap.size) (hC : Ls Sc.enc 3 w B A C) :
    Calls Try.prog 32 #[.slice A n c] w fun e w' => ∃ v S, e = .returned v ∧ Srt Sc.key lt S ∧ Sm Sc.key C S ∧ S.length = n ∧ MkC w w' v (lasts S) := by
  have HN := Lib.hid hn
  have HC := Lib.hid hC
  clear hn hC
  go_enter Try.func32, Try.ntmps32
  go_wp2_with (at_builtin; refine catC (Mk.nil (Below.refl _ _)) C A n c HN.out HC.out (by simp; omega) rfl _ _ rfl rfl rfl ?_; intro v1 w1 hM1 hG1; have HM1 := Lib.hid hM1; clear hM1 hG1)
  go_at_call 41
  refine (sorted_any C w w1 v1 HM1.out (by rw [← HN.out]; exact hlen)).mono ?_
  rintro e w2 ⟨rfl, hs⟩
  obtain ⟨A2, c2, S, hv1, hSl, hSs, hSm, hSL, hSb⟩ := hs
  have HS := Lib.hid (And.intro hSs hSm)
  have HSL := Lib.hid hSL
  have HSB := Lib.hid hSb
  have HSN := Lib.hid (show n = S.length by rw [hSl]; exact HN.out)
  rw [← HN.out] at hv1
  clear hSs hSm hSL hSb hSl HM1
  subst hv1
  go_wp2_with fail
  go_loopw [4, 13] (fun ov v wr => ∃ (i : Nat) (O : List Ch), i ≤ n ∧ v = .int .i64 i ∧ Hid (AtL S i O) ∧ Hid (MkC w2 wr ov O)) (fun _ v _ => n - (intOf v).toNat)
  case atStart => exact ⟨0, [], Nat.zero_le _, by go_num, rfl, Mk.nil (Below.refl _ _)⟩
  case round =>
    obtain ⟨i, O, hi, rfl, hat, hm⟩ := hrel
    by_cases hlt : i < n
    · obtain ⟨x, hx⟩ : ∃ x, S[i]? = some x := ⟨_, List.getElem?_eq_getElem (by rw [← HSN.out]; exact hlt)⟩
      have hL := HSL.out.below (Hid.out hm).2
      obtain ⟨b, o, hAe, hb, hr⟩ := hL i x hx
      have hbs : b < wr.heap.size := Nat.lt_of_lt_of_le hb (Hid.out hm).2.size
      have hc0 : wr.cell? ⟨b, o + i * 3, none⟩ = some (.string x.k) := hr 0 _ rfl
      have hc1 : wr.cell? ⟨b, o + i * 3 + 1, none⟩ = some (.bool x.h) := hr 1 _ rfl
      have hc2 : wr.cell? ⟨b, o + i * 3 + 2, none⟩ = some (.string x.v) := hr 2 _ rfl
      have HL := Lib.hid hL
      clear hL hr
      subst hAe
      have HM := Lib.hid (show MkC w2 (wr.alloc (.cells #[.string x.k, .bool x.h, .string x.v] 39)) _ O from (Hid.out hm).alloc _)
      have hd0 : (wr.alloc (.cells #[.string x.k, .bool x.h, .string x.v] 39)).cell? ⟨wr.heap.size, 0, none⟩ = some (.string x.k) := by simp
      have hd1 : (wr.alloc (.cells #[.string x.k, .bool x.h, .string x.v] 39)).cell? ⟨wr.heap.size, 1, none⟩ = some (.bool x.h) := by simp
      have hd2 : (wr.alloc (.cells #[.string x.k, .bool x.h, .string x.v] 39)).cell? ⟨wr.heap.size, 2, none⟩ = some (.string x.v) := by simp
      have hol : O.length ≤ n := by have := (Hid.out hat).le; rw [← HSN.out] at this; exact this
      by_cases hl : i + 1 = n
      · have hq : (((i : Int) + 1) == (n : Int)) = true := by rw [beq_iff_eq]; omega
        have HA := Lib.hid ((Hid.out hat).put_last hx (by rw [← HSN.out]; exact hl))
        clear hat hx hl
        go_wp2_with fail
        generalize wr.alloc _ = W1 at *
        go_big_quiet (fail)
        have HM2 := Lib.hid (HM.out.drewN nq)
        clear HM hm
        go_wp2_with (at_builtin; refine catC (HM2.out.alloc _) [x] _ 1 1 rfl (Ls.new _ x _ _ (Nat.lt_succ_self _)) (by omega) rfl _ _ rfl rfl rfl ?_; intro v3 w3 hM3 hG3; have HM3 := Lib.hid hM3; clear hM3 hG3)
        exact ⟨⟨i + 1, O ++ [x], by omega, by go_num, HA.out, HM3.out⟩, by simp [intOf] <;> omega⟩
      · obtain ⟨j, hj⟩ : ∃ j, i + 1 = j := ⟨_, rfl⟩
        have hj1 : (i : Int) + 1 = (j : Int) := by omega
        have hj3 : (j : Int) < (n : Int) := by omega
        have hq : ((j : Int) == (n : Int)) = false := by rw [beq_eq_false_iff_ne]; omega
        obtain ⟨y, hy⟩ : ∃ y, S[j]? = some y := ⟨_, List.getElem?_eq_getElem (by rw [← HSN.out]; omega)⟩
        obtain ⟨b2, o2, hAe, hb2, hr⟩ := HL.out j y hy
        cases hAe
        have hcy : (wr.alloc (.cells #[.string x.k, .bool x.h, .string x.v] 39)).cell? ⟨b, o + j * 3, none⟩ = some (.string y.k) := by
          rw [World.cell?_alloc_lt _ _ _ hbs]
          exact hr 0 _ rfl
        clear hr
        rw [← hj] at hy
        by_cases hk : ckey y = ckey x
        · have he : (y.k.toList == x.k.toList) = true := by rw [str_eq]; exact decide_eq_true hk
          have HA := Lib.hid ((Hid.out hat).pass hx hy hk)
          rw [hj] at HA
          clear hat hx hy hk hl
          go_wp2_with fail
          generalize wr.alloc _ = W1 at *
          go_big_quiet (fail)
          have HM2 := Lib.hid (HM.out.drewN nq)
          clear HM hm
          go_wp2
          exact ⟨⟨j, O, by omega, rfl, HA.out, HM2.out⟩, by simp [intOf] <;> omega⟩
        · have he : (y.k.toList == x.k.toList) = false := by rw [str_eq]; exact decide_eq_false hk
          have HA := Lib.hid ((Hid.out hat).put hx hy hk)
          rw [hj] at HA
          clear hat hx hy hk hl
          go_wp2_with fail
          generalize wr.alloc _ = W1 at *
          go_big_quiet (fail)
          have HM2 := Lib.hid (HM.out.drewN nq)
          clear HM hm
          go_wp2_with (at_builtin; refine catC (HM2.out.alloc _) [x] _ 1 1 rfl (Ls.new _ x _ _ (Nat.lt_succ_self _)) (by omega) rfl _ _ rfl rfl rfl ?_; intro v3 w3 hM3 hG3; have HM3 := Lib.hid hM3; clear hM3 hG3)
          exact ⟨⟨j, O ++ [x], by omega, rfl, HA.out, HM3.out⟩, by simp [intOf] <;> omega⟩
    · have HO := Lib.hid ((Hid.out hat).done (by rw [← HSN.out]; omega))
      have HM := Lib.hid ((Hid.out hm).since HSB.out)
      clear hat hm
      go_wp2
      go_ret
      exact ⟨_, S, rfl, HS.out.1, HS.out.2, HSN.out.symm, by rw [← HO.out]; exact HM.out⟩
end Go.Proofs.Ytpchkmjpmlbbgaa.It
