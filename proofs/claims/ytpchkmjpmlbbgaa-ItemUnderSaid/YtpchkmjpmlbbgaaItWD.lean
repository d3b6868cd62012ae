/- The walk of the law ItemUnder. -/
import Derived.Test.YtpchkmjpmlbbgaaItW
namespace Go.Proofs.Ytpchkmjpmlbbgaa.It
set_option linter.unusedVariables false
open Go.ChangeShapes Go.WideShapes Go.ChangeAt Go.RowKit
open Ar Rg St
open BigFrame
theorem pfx_cases (p k : ByteArray) : (p.size ≤ k.size → ((k.extract 0 p.size).toList == p.toList) = pfx p k) ∧ (k.size < p.size → pfx p k = false) := by
  have hl : k.data.toList.length = k.size := by simp
  have hl2 : p.data.toList.length = p.size := by simp
  constructor
  · intro h
    rw [pfx, pre_take, hl, hl2, decide_eq_true h, Bool.true_and, str_eq]
    refine decide_eq_decide.2 ?_
    rw [ByteArray.data_extract]
    simp
  · intro h
    rw [pfx, pre_take, hl, hl2, decide_eq_false (by omega), Bool.false_and]
theorem und_take {D : List Itm} {p : ByteArray} {i : Nat} {x : Itm} (hx : D[i]? = some x) : und (D.take (i + 1)) p = und (D.take i) p ++ (if pfx p x.k then [x] else []) := by
  unfold und
  rw [List.take_add_one, hx, List.filter_append]
  have e : pre p x = pfx p x.k := rfl
  cases h : pfx p x.k <;> simp [e, h]
theorem und_at {D : List Itm} {p : ByteArray} {i : Nat} {x : Itm} (hx : D[i]? = some x) (hp : pfx p x.k = true) : (und D p)[(und (D.take i) p).length]? = some x := by
  have e : und D p = und (D.take i) p ++ x :: und (D.drop (i + 1)) p := by
    unfold und
    conv => lhs; rw [← List.take_append_drop i D, drop_at hx]
    rw [List.filter_append, List.filter_cons_of_pos (show pre p x = true from hp)]
  rw [e, List.getElem?_append_right (Nat.le_refl _), Nat.sub_self]
  rfl
set_option maxRecDepth 100000 in
set_option maxHeartbeats 3000000 in
theorem itemUnder_walk (w : World) (D : List Itm) (A : Option Addr) (n c : Nat) (p : ByteArray) (hl : n ≤ 4398046511103) (hD : SlI w A n c D) (hp : p.size ≤ maxLen) :
    Calls Try.prog 8 #[.slice A n c, .string p] w fun e w' => e = .returned (.bool true) ∧ Below w.heap.size w w' := by
  unfold maxLen at hp
  have HD := Lib.hid hD
  have HN := Lib.hid hD.1
  have e4 : er false = 4 := rfl
  have e0 : er true = 0 := rfl
  clear hD
  have hq : rt D = false ∨ rt D = true := by cases rt D <;> simp
  go_enter Try.func8, Try.ntmps8
  go_wp2_with fail
  go_at_call 16
  refine (lives_true _).mono ?_
  rintro e w1 ⟨rfl, hb1⟩
  have HB1 := Lib.hid hb1
  clear hb1
  rcases hq with hq | hq
  · have HQ := Lib.hid hq
    clear hq
    go_wp2_with fail
    go_at_call 14
    refine (underS (HD.out.below HB1.out) p (by omega) (by omega)).mono ?_
    rw [HQ.out]
    rintro e w2 ⟨A2, n2, c2, he, hs2, hb2⟩
    have he' : e = .returned (.tuple #[.slice A2 n2 c2, .int .i64 (er false)]) := he
    subst he'
    have HS2 := Lib.hid (show SlI w2 A2 n2 c2 [] from hs2)
    have HB2 := Lib.hid (HB1.out.trans (hb2.mono HB1.out.size))
    clear hb2 hs2 he
    go_wp2_with fail
    go_at_call 14
    refine (underS (HD.out.below HB2.out) _ (by decide) (by omega)).mono ?_
    rw [HQ.out]
    rintro e w3 ⟨A3, n3, c3, he, hs3, hb3⟩
    have he' : e = .returned (.tuple #[.slice A3 n3 c3, .int .i64 (er false)]) := he
    subst he'
    have HS3 := Lib.hid (show SlI w3 A3 n3 c3 [] from hs3)
    have HB3 := Lib.hid (HB2.out.trans (hb3.mono HB2.out.size))
    clear hb3 hs3 he
    obtain rfl : n2 = 0 := HS2.out.1
    go_wp2
    go_ret
    exact ⟨rfl, HB3.out⟩
  · have HQ := Lib.hid hq
    clear hq
    go_wp2_with fail
    go_at_call 14
    refine (underS (HD.out.below HB1.out) p (by omega) (by omega)).mono ?_
    rw [HQ.out]
    rintro e w2 ⟨A2, n2, c2, he, hs2, hb2⟩
    have he' : e = .returned (.tuple #[.slice A2 n2 c2, .int .i64 (er true)]) := he
    subst he'
    have HS2 := Lib.hid (show SlI w2 A2 n2 c2 (und D p) from hs2)
    have HB2 := Lib.hid (HB1.out.trans (hb2.mono HB1.out.size))
    clear hb2 hs2 he HB1
    go_wp2_with fail
    go_at_call 14
    refine (underS (HD.out.below HB2.out) _ (by decide) (by omega)).mono ?_
    rw [HQ.out, und_none]
    rintro e w3 ⟨A3, n3, c3, he, hs3, hb3⟩
    have he' : e = .returned (.tuple #[.slice A3 n3 c3, .int .i64 (er true)]) := he
    subst he'
    have HS3 := Lib.hid (show SlI w3 A3 n3 c3 D from hs3)
    have HB3 := Lib.hid (HB2.out.trans (hb3.mono HB2.out.size))
    have HS2' := Lib.hid (HS2.out.below hb3)
    clear hb3 hs3 he HB2 HS2
    have hn2 : n2 ≤ n := by have h1 := HS2'.out.1; have h3 := HN.out; have h4 := List.length_filter_le (pre p) D; unfold und at h1; omega
    have hn3 : n3 ≤ n := by have h1 := HS3.out.1; have h3 := HN.out; omega
    go_wp2_with fail
    go_loopw [9, 39] (fun nv v wr => ∃ i q : Nat, i ≤ n ∧ q ≤ n ∧ v = .int .i64 i ∧ nv = .int .i64 q ∧ Hid (q = (und (D.take i) p).length) ∧ Hid (Below w3.heap.size w3 wr)) (fun _ v _ => n - (intOf v).toNat)
    case atStart => exact ⟨0, 0, Nat.zero_le _, Nat.zero_le _, by go_num, by go_num, rfl, Below.refl _ _⟩
    case round =>
      obtain ⟨i, q, hi, hqn, rfl, rfl, hcnt, hbel⟩ := hrel
      have HBW := Lib.hid (HB3.out.trans ((Hid.out hbel).mono HB3.out.size))
      by_cases hlt : i < n
      · obtain ⟨x, b, o, hx, hAe, hbs, hc0, hc1⟩ := (HD.out.below HBW.out).at_ hlt
        subst hAe
        have hut := und_take (p := p) hx
        have hkx := okI_sizes HQ.out hx
        have hbn : Below w3.heap.size w3 (wr.alloc (.cells #[.string x.k, .string x.v] 43)) := (Hid.out hbel).alloc (Hid.out hbel).size _
        have HBN := Lib.hid hbn
        have hd0 : (wr.alloc (.cells #[.string x.k, .string x.v] 43)).cell? ⟨wr.heap.size, 0, none⟩ = some (.string x.k) := by simp
        have hd1 : (wr.alloc (.cells #[.string x.k, .string x.v] 43)).cell? ⟨wr.heap.size, 1, none⟩ = some (.string x.v) := by simp
        have hpc := pfx_cases p x.k
        by_cases hpf : pfx p x.k = true
        · have hle : p.size ≤ x.k.size := by
            rcases Nat.lt_or_ge x.k.size p.size with h | h
            · rw [hpc.2 h] at hpf; cases hpf
            · exact h
          have q1 : decide ((x.k.size : Int) < (p.size : Int)) = false := by rw [decide_eq_false_iff_not]; omega
          have q2 : ((x.k.extract 0 p.size).toList == p.toList) = true := by rw [hpc.1 hle, hpf]
          have hua := und_at hx hpf
          rw [← Hid.out hcnt] at hua
          have hq2 : q < n2 := by
            have := (List.getElem?_eq_some_iff.1 hua).1
            rw [HS2'.out.1]; exact this
          have q3 : decide ((n2 : Int) ≤ (q : Int)) = false := by rw [decide_eq_false_iff_not]; omega
          have q4 : decide (n2 ≤ q) = false := by rw [decide_eq_false_iff_not]; omega
          rw [hpf, if_pos rfl] at hut
          have HC := Lib.hid (show q + 1 = (und (D.take (i + 1)) p).length by rw [hut, List.length_append, ← Hid.out hcnt]; rfl)
          have hq1n : q + 1 ≤ n := by omega
          have hgt : get D x.k = some x.v := (get_iff (rt_iff.1 HQ.out).1 _ _).2 (List.mem_of_getElem? hx)
          have HG := Lib.hid hgt
          have hle2 : (p.size : Int) ≤ (x.k.size : Int) := by omega
          have hks : (x.k.size : Int) ≤ 48 := by omega
          have HUA := Lib.hid hua
          clear hx hut hkx hpc hcnt hbel hgt hua hpf
          go_wp2_with fail
          generalize hW1 : wr.alloc _ = W1 at *
          have hsz1 : wr.heap.size < W1.heap.size := by rw [← hW1]; simp
          clear hW1
          have HBN3 := Lib.hid (HB3.out.trans (HBN.out.mono HB3.out.size))
          go_at_call 12
          refine (getS (HD.out.below HBN3.out) x.k (by omega)).mono ?_
          rw [HQ.out, HG.out]
          rintro e w4 ⟨he, hb4⟩
          have he' : e = .returned (.tuple #[.string x.v, .int .i64 0]) := he
          subst he'
          have hf0 : w4.cell? ⟨wr.heap.size, 0, none⟩ = some (.string x.k) := (hb4.cell (p := ⟨wr.heap.size, 0, none⟩) hsz1).trans hd0
          have hf1 : w4.cell? ⟨wr.heap.size, 1, none⟩ = some (.string x.v) := (hb4.cell (p := ⟨wr.heap.size, 1, none⟩) hsz1).trans hd1
          have HB4 := Lib.hid (HBN.out.trans (hb4.mono HBN.out.size))
          obtain ⟨y, b2, o2, hy, hAe, _, hg0, hg1⟩ := (HS2'.out.below HB4.out).at_ hq2
          have hyx : y = x := by rw [HUA.out] at hy; cases hy; rfl
          subst hyx
          subst hAe
          clear hb4 he HBN hd0 hd1 hc0 hc1 HUA hy
          go_wp2_with fail
          go_big_quiet (fail)
          have HB5 := Lib.hid (below_drewN HB4.out nq)
          clear HB4
          generalize World.drewN _ _ = W2 at *
          go_wp2
          exact ⟨⟨i + 1, q + 1, by omega, hq1n, by go_num, by go_num, HC.out, HB5.out⟩, by simp [intOf] <;> omega⟩
        · have hpf : pfx p x.k = false := by simpa using hpf
          rw [hpf, if_neg (by simp), List.append_nil] at hut
          have HC := Lib.hid (show q = (und (D.take (i + 1)) p).length by rw [hut]; exact Hid.out hcnt)
          by_cases hle : p.size ≤ x.k.size
          · have q1 : decide ((x.k.size : Int) < (p.size : Int)) = false := by rw [decide_eq_false_iff_not]; omega
            have q2 : ((x.k.extract 0 p.size).toList == p.toList) = false := by rw [hpc.1 hle, hpf]
            have hle2 : (p.size : Int) ≤ (x.k.size : Int) := by omega
            have hks : (x.k.size : Int) ≤ 48 := by omega
            clear hx hut hkx hpc hcnt hpf
            go_wp2
            exact ⟨⟨i + 1, q, by omega, hqn, by go_num, rfl, HC.out, HBN.out⟩, by simp [intOf] <;> omega⟩
          · have q1 : decide ((x.k.size : Int) < (p.size : Int)) = true := by rw [decide_eq_true_iff]; omega
            clear hx hut hkx hpc hcnt hpf
            go_wp2
            exact ⟨⟨i + 1, q, by omega, hqn, by go_num, rfl, HC.out, HBN.out⟩, by simp [intOf] <;> omega⟩
      · have hqq : q = n2 := by
          have h1 := Hid.out hcnt
          rw [List.take_of_length_le (by rw [← HN.out]; omega)] at h1
          rw [h1]; exact HS2'.out.1.symm
        have q3 : ((q : Int) == (n2 : Int)) = true := by rw [beq_iff_eq]; omega
        clear hqq hcnt
        go_wp2_with fail
        go_at_call 17
        refine (sameS (HS3.out.below (Hid.out hbel)) (HD.out.below HBW.out) (by omega)).mono ?_
        rw [sm_iff.2 rfl]
        rintro e w4 ⟨rfl, hb4⟩
        have HB4 := Lib.hid (HBW.out.trans (hb4.mono HBW.out.size))
        clear hb4
        go_wp2
        go_ret
        exact ⟨rfl, HB4.out⟩
end Go.Proofs.Ytpchkmjpmlbbgaa.It
