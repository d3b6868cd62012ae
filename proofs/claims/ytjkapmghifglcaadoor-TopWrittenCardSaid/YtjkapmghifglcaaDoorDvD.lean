/- Blocks appended to a slice of the call's own; contract of package dev's laid. -/
import Derived.Test.YtjkapmghifglcaaDoorDvC
namespace Go.Proofs.YtjkapmghifglcaaDoor.Dv
set_option linter.unusedVariables false
open Go.ChangeShapes Go.WideShapes Go.ChangeAt Go.RowKit
open Ar Rg St
open BigFrame
theorem infoB : (Tryd.prog.info? 41).map (fun i => (i.zero, i.size, i.bytes)) = some (some (.agg #[.int .u32 0, .string ByteArray.empty]), 2, 24) := by kernel_rfl
abbrev MkB (w wr : World) (v : Value) (D : List Bk) : Prop := Mk enc 2 41 w wr v D
theorem catB {ops : Array Oper} {rest : List Oper} {o : Oper} {a : Act} {Q : Exit → Act → World → Prop} {w wr : World} {v : Value} {D : List Bk} (hM : MkB w wr v D) (E : List Bk) (A : Option Addr) (m c : Nat) {B : Nat} (hm : m = E.length) (hL : Ls enc 2 wr B A E) (hlen : D.length + m ≤ 4398046511104)
    (hgd : o.guard = none) (s x : Operand) (ho : o.op = .call { callee := .builtin .append, args := #[s, x], argTypes := #[23, 23] }) (hs : a.eval s = v) (hx : a.eval x = .slice A m c)
    (h : ∀ v' w', MkB w w' v' (D ++ E) → wr.grownBy w' v.ownBlock → wpList Tryd.prog ops Q rest (a.put o.dst v') w') : wpList Tryd.prog ops Q (o :: rest) a wr := by
  obtain ⟨i0, hi, hz0, hz1, hz2⟩ := info_parts infoB
  exact wpList_cat 23 i0 _ 24 Tryd.underlying23 hi hz0 hz1 hz2 rfl (by decide) Sb.enc_len Sb.enc_one hM m c hm hL (by unfold maxLen; omega) (by omega) hgd s x ho hs hx h
theorem SlB.of_mk {w0 w : World} {D : List Bk} {v : Value} (h : MkB w0 w v D) : ∃ A n c, v = .slice A n c ∧ SlB w A n c D := by
  obtain ⟨A, c, hv, h1, h2, h3⟩ := h.ls Sb.enc_len
  exact ⟨A, _, c, hv, rfl, h1, h2, _, Nat.le_refl _, h3⟩
/-- what is left of the list and of the changes, what has been put -/
def AtA (D : List Itm) (L : List Ch) (i : Nat) (R O : List Itm) : Prop := UpK key R ∧ O ++ app R (L.drop i) = app D L ∧ R.length + O.length ≤ D.length + i
theorem AtA.step {D R O : List Itm} {L : List Ch} {i p : Nat} {c : Ch} (h : AtA D L i R O) (hL : UpK key L) (hc : L[i]? = some c) (hp : At R c.n p) :
    AtA D L (i + 1) (R.drop (p + if found R c.n p then 1 else 0)) (O ++ R.take p ++ (if hb c then [itm c] else [])) := by
  obtain ⟨h1, h2, h3⟩ := h
  refine ⟨h1.sub (List.drop_sublist _ _), ?_, ?_⟩
  · rw [← h2, drop_at hc, app_step h1 (by rw [← drop_at hc]; exact hL.sub (List.drop_sublist _ _)) hp]
    simp only [List.append_assoc]
  · have : (if hb c then [itm c] else []).length ≤ 1 := by split <;> simp
    have hp1 := hp.1
    simp only [List.length_drop, List.length_append, List.length_take]
    omega
theorem found_lt {R : List Itm} {k : Nat} {p : Nat} (h : found R k p = true) : p < R.length := by
  unfold found at h
  cases hx : R[p]? with
  | none => rw [hx] at h; cases h
  | some y => exact (List.getElem?_eq_some_iff.1 hx).1
set_option linter.unusedSimpArgs false in
set_option maxRecDepth 100000 in
set_option maxHeartbeats 2000000 in
theorem laid_any (D : List Bk) (L : List Bk) (A A' : Option Addr) (n c n' c' B B' : Nat) (hn : n = D.length) (hc : n ≤ c) (hcm : c ≤ maxLen) (hn' : n' = L.length) (hlen : n ≤ 1099511627776) (hlen' : n' ≤ 1099511627776) (hD : UpK key D) (hL : UpK key L)
    (w : World) (hB : B ≤ w.heap.size) (hB' : B' ≤ w.heap.size) (hA : Ls enc 2 w B A D) (hA' : Ls enc 2 w B' A' L) :
    Calls Tryd.prog 44 #[.slice A n c, .slice A' n' c'] w fun e w' => ∃ v, e = .returned v ∧ MkB w w' v (app D L) := by
  unfold maxLen at hcm
  have HN' := Lib.hid hn'
  have HD := Lib.hid hD
  have HDL := Lib.hid (show D.length ≤ 1099511627776 by omega)
  have HL := Lib.hid hL
  have HA' := Lib.hid hA'
  have H0 := Lib.hid (show n = D.length ∧ n ≤ c ∧ c ≤ 9223372036854775807 ∧ Ls enc 2 w B A D from ⟨hn, hc, hcm, hA⟩)
  clear hn hn' hD hL hA hA' hc hcm
  go_enter Tryd.func44, Tryd.ntmps44
  go_wp2_with fail
  go_loopw [0, 5, 12] (fun lv ov v wr => ∃ (i : Nat) (R O : List Bk) (A : Option Addr) (n c : Nat), i ≤ n' ∧ v = .int .i64 i ∧ lv = .slice A n c ∧ Hid (n = R.length ∧ n ≤ c ∧ c ≤ 9223372036854775807 ∧ Ls enc 2 w B A R) ∧ Hid (AtA D L i R O) ∧ Hid (MkB w wr ov O)) (fun _ _ v _ => n' - (intOf v).toNat)
  case atStart => exact ⟨0, D, [], A, n, c, Nat.zero_le _, by go_num, rfl, H0.out, ⟨HD.out, rfl, by simp⟩, Mk.nil (Below.refl _ _)⟩
  case round =>
    clear H0
    obtain ⟨i, R, O, A, n, c, hi, rfl, rfl, hl, hat, hm⟩ := hrel
    by_cases hlt : i < n'
    · obtain ⟨x, hx⟩ : ∃ x, L[i]? = some x := ⟨_, List.getElem?_eq_getElem (by rw [← HN'.out]; exact hlt)⟩
      obtain ⟨b, o, hAe, hb, hr⟩ := (HA'.out.below ((Hid.out hm).2.mono hB')) i x hx
      have hbs : b < wr.heap.size := Nat.lt_of_lt_of_le hb (Nat.le_trans hB' (Hid.out hm).2.size)
      have hc0 : wr.cell? ⟨b, o + i * 2, none⟩ = some (.int .u32 x.n) := hr 0 _ rfl
      have hc1 : wr.cell? ⟨b, o + i * 2 + 1, none⟩ = some (.string x.d) := hr 1 _ rfl
      clear hr
      subst hAe
      have HM := Lib.hid (show MkB w (wr.alloc (.cells #[.int .u32 x.n, .string x.d] 41)) _ O from (Hid.out hm).alloc _)
      have hd0 : (wr.alloc (.cells #[.int .u32 x.n, .string x.d] 41)).cell? ⟨wr.heap.size, 0, none⟩ = some (.int .u32 x.n) := by simp
      have hd1 : (wr.alloc (.cells #[.int .u32 x.n, .string x.d] 41)).cell? ⟨wr.heap.size, 1, none⟩ = some (.string x.d) := by simp
      have hncc := (Hid.out hl).2.1
      have hcm := (Hid.out hl).2.2.1
      go_wp2_with fail
      go_at_call 55
      refine (search_any R x A n c B (Hid.out hl).1 (by have := (Hid.out hl).1; have := (Hid.out hat).2.2; have := HN'.out; have := HDL.out; omega) (srt_up (Hid.out hat).1) _ (by have := (Hid.out hm).2.size; simp; omega) ((Hid.out hl).2.2.2.below ((Hid.out HM.out).2.mono hB))).mono ?_
      rintro e w2 ⟨p, hp, rfl, hb2⟩
      have HM2 := Lib.hid (HM.out.go hb2)
      have hpn : p ≤ n := by rw [(Hid.out hl).1]; exact hp.1
      have HP := Lib.hid hp
      have hlt2 : wr.heap.size < w2.heap.size := by have := hb2.size; simp at this; omega
      have he0 : w2.cell? ⟨wr.heap.size, 0, none⟩ = some (.int .u32 x.n) := (hb2.cell (p := ⟨wr.heap.size, 0, none⟩) (by simp)).trans hd0
      have he1 : w2.cell? ⟨wr.heap.size, 1, none⟩ = some (.string x.d) := (hb2.cell (p := ⟨wr.heap.size, 1, none⟩) (by simp)).trans hd1
      clear hb2 HM hp hd0 hd1 hc0 hc1
      have hop : O.length + n ≤ 2199023255552 := by
        have h1 := (Hid.out hl).1
        have h2 := (Hid.out hat).2.2
        have h3 := HDL.out
        omega
      have htl : (R.take p).length = p := by rw [List.length_take]; have := (Hid.out hl).1; omega
      have HTL := Lib.hid htl.symm
      clear htl
      obtain ⟨A1, hif⟩ : ∃ A1, (if c = p then A else Option.map (fun x => x.add (p * 2)) A) = A1 := ⟨_, rfl⟩
      have HL1 := Lib.hid (show Ls enc 2 w B A1 (R.drop p) from hif ▸ (Hid.out hl).2.2.2.drop (Hid.out hl).1 hncc hpn)
      have hst := (Hid.out hat).step HL.out hx HP.out
      by_cases hf : found R x.n p = true
      · have hp1 : p < n := by rw [(Hid.out hl).1]; exact found_lt hf
        have hone : (1 : Int) ≤ ((n - p : Nat) : Int) := by omega
        rw [if_neg (by omega)] at hif
        obtain ⟨A2, hif2⟩ : ∃ A2, (if c - p = 1 then A1 else Option.map (fun x => ({ block := x.block, off := x.off + 2 } : Addr)) A1) = A2 := ⟨_, rfl⟩
        have HL2 := Lib.hid (show Ls enc 2 w B A2 (R.drop (p + 1)) from by
          rw [← hif2, ← List.drop_drop]
          exact HL1.out.drop (n := n - p) (c := c - p) (p := 1) (by rw [List.length_drop, ← (Hid.out hl).1]) (by omega) (by omega))
        by_cases hh : Dv.hb x = true
        · have hemp : x.d.toList.isEmpty = false := by simpa [Dv.hb] using hh
          simp only [hf, hh, if_true, Bool.false_eq_true, if_false, Nat.add_zero, List.append_nil] at hst
          have HST := Lib.hid hst
          clear hst hx
          go_wp2_with (first | (at_builtin; refine catB (HM3.out.alloc _) [itm x] _ 1 1 rfl (Ls.new _ (itm x) _ _ (Nat.lt_succ_self _)) (by simp only [List.length_append, List.length_take]; omega) rfl _ _ rfl rfl rfl ?_; intro v4 w4 hM4 hG4; have HM4 := Lib.hid hM4; clear hM4 hG4) | (at_builtin; refine catB HM2.out (R.take p) A p c HTL.out ((((Hid.out hl).2.2.2.take p).below (HM2.out.2.mono hB))) (by omega) rfl _ _ rfl rfl rfl ?_; intro v3 w3 hM3 hG3; have HM3 := Lib.hid hM3; have hd0 := (Hid.out hm).keep hG3 (Nat.le_refl _) he0; have hd1 := (Hid.out hm).keep hG3 (Nat.le_refl _) he1; clear hM3 hG3 he0 he1))
          exact ⟨⟨i + 1, R.drop (p + 1), O ++ R.take p ++ [itm x], A2, n - p - 1, c - p - 1, by omega, by go_num, rfl, ⟨by rw [List.length_drop, ← (Hid.out hl).1] <;> omega, by omega, by omega, HL2.out⟩, HST.out, HM4.out⟩, by simp [intOf] <;> omega⟩
        · have hh : Dv.hb x = false := by simpa using hh
          have hemp : x.d.toList.isEmpty = true := by simpa [Dv.hb] using hh
          simp only [hf, hh, if_true, Bool.false_eq_true, if_false, Nat.add_zero, List.append_nil] at hst
          have HST := Lib.hid hst
          clear hst hx
          go_wp2_with (at_builtin; refine catB HM2.out (R.take p) A p c HTL.out ((((Hid.out hl).2.2.2.take p).below (HM2.out.2.mono hB))) (by omega) rfl _ _ rfl rfl rfl ?_; intro v3 w3 hM3 hG3; have HM3 := Lib.hid hM3; have hd0 := (Hid.out hm).keep hG3 (Nat.le_refl _) he0; have hd1 := (Hid.out hm).keep hG3 (Nat.le_refl _) he1; clear hM3 hG3 he0 he1)
          exact ⟨⟨i + 1, R.drop (p + 1), O ++ R.take p, A2, n - p - 1, c - p - 1, by omega, by go_num, rfl, ⟨by rw [List.length_drop, ← (Hid.out hl).1] <;> omega, by omega, by omega, HL2.out⟩, HST.out, HM3.out⟩, by simp [intOf] <;> omega⟩
      · have hf : found R x.n p = false := by simpa using hf
        by_cases hh : Dv.hb x = true
        · have hemp : x.d.toList.isEmpty = false := by simpa [Dv.hb] using hh
          simp only [hf, hh, if_true, Bool.false_eq_true, if_false, Nat.add_zero, List.append_nil] at hst
          have HST := Lib.hid hst
          clear hst hx
          go_wp2_with (first | (at_builtin; refine catB (HM3.out.alloc _) [itm x] _ 1 1 rfl (Ls.new _ (itm x) _ _ (Nat.lt_succ_self _)) (by simp only [List.length_append, List.length_take]; omega) rfl _ _ rfl rfl rfl ?_; intro v4 w4 hM4 hG4; have HM4 := Lib.hid hM4; clear hM4 hG4) | (at_builtin; refine catB HM2.out (R.take p) A p c HTL.out ((((Hid.out hl).2.2.2.take p).below (HM2.out.2.mono hB))) (by omega) rfl _ _ rfl rfl rfl ?_; intro v3 w3 hM3 hG3; have HM3 := Lib.hid hM3; have hd0 := (Hid.out hm).keep hG3 (Nat.le_refl _) he0; have hd1 := (Hid.out hm).keep hG3 (Nat.le_refl _) he1; clear hM3 hG3 he0 he1))
          exact ⟨⟨i + 1, R.drop p, O ++ R.take p ++ [itm x], A1, n - p, c - p, by omega, by go_num, rfl, ⟨by rw [List.length_drop, ← (Hid.out hl).1] <;> omega, by omega, by omega, HL1.out⟩, HST.out, HM4.out⟩, by simp [intOf] <;> omega⟩
        · have hh : Dv.hb x = false := by simpa using hh
          have hemp : x.d.toList.isEmpty = true := by simpa [Dv.hb] using hh
          simp only [hf, hh, if_true, Bool.false_eq_true, if_false, Nat.add_zero, List.append_nil] at hst
          have HST := Lib.hid hst
          clear hst hx
          go_wp2_with (at_builtin; refine catB HM2.out (R.take p) A p c HTL.out ((((Hid.out hl).2.2.2.take p).below (HM2.out.2.mono hB))) (by omega) rfl _ _ rfl rfl rfl ?_; intro v3 w3 hM3 hG3; have HM3 := Lib.hid hM3; have hd0 := (Hid.out hm).keep hG3 (Nat.le_refl _) he0; have hd1 := (Hid.out hm).keep hG3 (Nat.le_refl _) he1; clear hM3 hG3 he0 he1)
          exact ⟨⟨i + 1, R.drop p, O ++ R.take p, A1, n - p, c - p, by omega, by go_num, rfl, ⟨by rw [List.length_drop, ← (Hid.out hl).1] <;> omega, by omega, by omega, HL1.out⟩, HST.out, HM3.out⟩, by simp [intOf] <;> omega⟩
    · have HO := Lib.hid (show O ++ R = app D L by
        have h := (Hid.out hat).2.1
        rw [List.drop_eq_nil_of_le (by rw [← HN'.out]; omega)] at h
        exact h)
      have hop : O.length + n ≤ 4398046511104 := by
        have h1 := (Hid.out hl).1
        have h2 := (Hid.out hat).2.2
        have h3 := HDL.out
        omega
      go_wp2_with (at_builtin; refine catB (Hid.out hm) R A n c (Hid.out hl).1 ((Hid.out hl).2.2.2.below ((Hid.out hm).2.mono hB)) (by omega) rfl _ _ rfl rfl rfl ?_; intro v3 w3 hM3 hG3; have HM3 := Lib.hid hM3; clear hM3 hG3)
      go_ret
      exact ⟨_, rfl, by rw [← HO.out]; exact HM3.out⟩
end Go.Proofs.YtjkapmghifglcaaDoor.Dv
