/- The walk of the law DevWhole. -/
import Derived.Test.YtjkapmghifglcaaDoorDwG
namespace Go.Proofs.YtjkapmghifglcaaDoor.Dv
set_option linter.unusedVariables false
open Go.ChangeShapes Go.WideShapes Go.ChangeAt Go.RowKit
open Ar Rg St
open BigFrame
theorem val_last {D : List Bk} {num : Nat} (h : UpK key D) : (rdW D num).getD ByteArray.empty = val D num := by
  cases hr : rdW D num with
  | none =>
    symm
    refine val_none fun b hb e => ?_
    unfold rdW at hr
    rw [Option.map_eq_none_iff, List.find?_eq_none] at hr
    have := hr b (List.mem_reverse.2 hb)
    simp [e] at this
  | some s =>
    obtain ⟨b, h1, h2, h3⟩ := rdW_some hr
    rw [val_mem h h1 h2, h3]; rfl
/-- what a block is behind a crash -/
theorem whole_or {x : De} (h : x.rt = true) (kf : Nat → Bool) {num : Nat} (hn : ¬ x.N ≤ num) : rdX (crX x kf) num = val x.D num ∨ ∃ b ∈ x.W, b.n = num ∧ b.d = rdX (crX x kf) num := by
  have h0 : rdO (crX x kf) num = 0 := by rw [cr_rdO kf h, if_neg hn]
  rw [rdX_at h0, cr_has kf h]
  cases hr : rdW (kpt kf x.W x.W.length) num with
  | none => exact .inl rfl
  | some s =>
    obtain ⟨b, h1, h2, h3⟩ := rdW_some hr
    exact .inr ⟨b, kpt_mem _ h1, h2, h3⟩
theorem whole_all {x : De} (h : x.rt = true) (hd : x.dn = false) {num : Nat} : rdX (crX x (kp (List.replicate x.W.length true))) num = rdX x num := by
  have h1 : rdO (crX x (kp (List.replicate x.W.length true))) num = rdO x num := by rw [cr_rdO _ h, rdO_up h hd]
  refine rdX_eq h1 ?_
  rw [cr_has _ h, kpt_full]; rfl
theorem not_rt {x : De} (h : chO x ≠ 0) (kf : Nat → Bool) : crX x kf = De.zero := by
  unfold crX
  rw [if_neg]
  intro hr
  exact h (chO_zero.2 hr)
/-- what the flag says of the first i writes -/
def Flg (s had : ByteArray) (num : Nat) (W : List Bk) (q : Bool) : Prop := (s = had → q = true) ∧ ∀ b ∈ W, b.n = num → b.d = s → q = true
set_option maxRecDepth 100000 in
set_option maxHeartbeats 2000000 in
theorem devWhole_walk (w : World) (x : De) (A : Option Addr) (n c : Nat) (A' : Option Addr) (m c' : Nat) (h1 : SlB w A n c x.D) (h2 : SlB w A' m c' x.W) (ln : n ≤ 281474976710656) (lm : m ≤ 281474976710656) (lo : -9223372036854775808 ≤ x.fu) (hi : x.fu ≤ 9223372036854775807) (KL : List Bool) (AK : Option Addr) (nk ck : Nat) (hK : SlK w AK nk KL) (num : Nat) :
    Calls Tryd.prog 6 #[.agg #[.int .u32 x.N, .slice A n c, .slice A' m c', .bool x.dn, .int .i64 x.fu], .slice AK nk ck, .int .u32 num] w fun e w' => e = .returned (.bool true) ∧ Below w.heap.size w w' := by
  obtain ⟨o, ho⟩ : ∃ o, chO x = o := ⟨_, rfl⟩
  have Eo := Lib.hid ho
  by_cases ho : o = 0
  · subst ho
    have HRT := Lib.hid (chO_zero.1 Eo.out)
    have HD := Lib.hid (rt_len HRT.out)
    obtain ⟨y, hy⟩ : ∃ y, crX x (kp KL) = y := ⟨_, rfl⟩
    have Ey := Lib.hid hy
    obtain ⟨w1v, hw1⟩ : ∃ v, rdO y num = v := ⟨_, rfl⟩
    have Ew := Lib.hid hw1
    obtain ⟨s, hs⟩ : ∃ s, rdX y num = s := ⟨_, rfl⟩
    have Es := Lib.hid hs
    clear ho hy hw1 hs
    have HKL := Lib.hid hK
    clear hK
    obtain ⟨k1, k2⟩ := DV.boxed h1 h2 ln lm lo hi
    have Hd0 := Lib.hid k1
    have HB0 := Lib.hid k2
    clear k1 k2
    go_enter Tryd.func6, Tryd.ntmps6
    go_wp2_with fail
    generalize w.alloc _ = w0 at *
    go_at_call 20
    refine (lives_true w0).mono ?_
    rintro e w1 ⟨rfl, hb⟩
    have Hdw1 := Lib.hid (Hd0.out.below hb)
    have HBw1 := Lib.hid (HB0.out.trans (hb.mono HB0.out.size))
    clear hb
    have qd0 := Hdw1.out.box.c0
    have qd1 := Hdw1.out.box.c1
    have qd2 := Hdw1.out.box.c2
    have qd3 := Hdw1.out.box.c3
    have qd4 := Hdw1.out.box.c4
    go_wp2_with fail
    go_at_call 24
    refine (crashS KL (HKL.out.below HBw1.out) Hdw1.out).mono ?_
    rw [Ey.out, Eo.out]
    rintro e w2 ⟨Ar, nr, cr, Br, mr, dr, rfl, y1r, y2r, y3r, y4r, y5r, y6r, hb⟩
    have Y1r := Lib.hid y1r
    have Y2r := Lib.hid y2r
    have Hdw2 := Lib.hid (Hdw1.out.below hb)
    have HBw2 := Lib.hid (HBw1.out.trans (hb.mono HBw1.out.size))
    clear qd0 qd1 qd2 qd3 qd4
    clear hb y1r y2r
    go_wp2_with (refine wpList_new (x := y) 7 30 rfl rfl rfl rfl Y1r.out Y2r.out y3r y4r y5r y6r ?_; intro w3 hb hd; have NEde := Lib.hid (Nat.ne_of_lt Hdw2.out.lt); have NEed := Lib.hid (Nat.ne_of_gt Hdw2.out.lt); have Hdw3 := Lib.hid (Hdw2.out.below hb); have HBw3 := Lib.hid (HBw2.out.trans (hb.mono HBw2.out.size)); have Hew3 := Lib.hid hd; clear hb hd; have qe0 := Hew3.out.box.c0; have qe1 := Hew3.out.box.c1; have qe2 := Hew3.out.box.c2; have qe3 := Hew3.out.box.c3; have qe4 := Hew3.out.box.c4)
    go_at_call 18
    refine (readS num Hew3.out).mono ?_
    rw [Ew.out, Es.out]
    rintro e w4 ⟨rfl, hb⟩
    have Hdw4 := Lib.hid (Hdw3.out.below hb)
    have Hew4 := Lib.hid (Hew3.out.below hb)
    have HBw4 := Lib.hid (HBw3.out.trans (hb.mono HBw3.out.size))
    clear qe0 qe1 qe2 qe3 qe4
    clear hb
    have qd0 := Hdw4.out.box.c0
    have qd1 := Hdw4.out.box.c1
    have qd2 := Hdw4.out.box.c2
    have qd3 := Hdw4.out.box.c3
    have qd4 := Hdw4.out.box.c4
    go_wp2_with fail
    clear qd0 qd1 qd2 qd3 qd4
    have hn9 : n ≤ 65536 := by have h := HD.out.1; have h2 := Hdw4.out.one.1; omega
    go_loopw [11, 46] (fun hv v wr => ∃ (i : Nat) (had : ByteArray), i ≤ n ∧ v = .int .i64 i ∧ hv = .string had ∧ Hid (had = (rdW (x.D.take i) num).getD ByteArray.empty) ∧ Hid (Below w4.heap.size w4 wr)) (fun _ v _ => n - (intOf v).toNat)
    case atStart => exact ⟨0, _, Nat.zero_le _, by go_num, rfl, rfl, Below.refl _ _⟩
    case round =>
      obtain ⟨i, had, hi, rfl, rfl, hhad, hbel⟩ := hrel
      by_cases hlt : i < n
      · have _ht := trivial
        obtain ⟨q, hq⟩ : ∃ q, x.D[i]? = some q := ⟨_, List.getElem?_eq_getElem (by have h := Hdw4.out.one.1; omega)⟩
        obtain ⟨-, -, -, BB, hBB, hLL⟩ := Hdw4.out.one.below (Hid.out hbel)
        obtain ⟨b, z, hAe, hbb, hr⟩ := hLL i q hq
        have hbs : b < wr.heap.size := Nat.lt_of_lt_of_le hbb hBB
        have hc0 : wr.cell? ⟨b, z + i * 2, none⟩ = some (.int .u32 q.n) := hr 0 _ rfl
        have hc1 : wr.cell? ⟨b, z + i * 2 + 1, none⟩ = some (.string q.d) := hr 1 _ rfl
        subst hAe
        clear hr hLL
        have hd0 : (wr.alloc (.cells #[.int .u32 q.n, .string q.d] 41)).cell? ⟨wr.heap.size, 0, none⟩ = some (.int .u32 q.n) := by simp
        have hd1 : (wr.alloc (.cells #[.int .u32 q.n, .string q.d] 41)).cell? ⟨wr.heap.size, 1, none⟩ = some (.string q.d) := by simp
        have HB9 := Lib.hid (show Below w4.heap.size w4 (wr.alloc (.cells #[.int .u32 q.n, .string q.d] 41)) from (Hid.out hbel).alloc (Hid.out hbel).size _)
        by_cases hqn : q.n = num
        · have hqe : ((q.n : Int) == (num : Int)) = true := by rw [beq_iff_eq]; exact congrArg Int.ofNat hqn
          have HH := Lib.hid (show q.d = (rdW (x.D.take (i + 1)) num).getD ByteArray.empty by rw [take_snocB hq, rdW_snoc, if_pos hqn]; rfl)
          clear hq hqn hhad hbel
          go_wp2
          exact ⟨⟨i + 1, q.d, by omega, by go_num, rfl, HH.out, HB9.out⟩, by simp [intOf] <;> omega⟩
        · have hqe : ((q.n : Int) == (num : Int)) = false := by rw [beq_eq_false_iff_ne]; exact fun e => hqn (Int.ofNat.inj e)
          have HH := Lib.hid (show had = (rdW (x.D.take (i + 1)) num).getD ByteArray.empty by rw [take_snocB hq, rdW_snoc, if_neg hqn]; exact Hid.out hhad)
          clear hq hqn hhad hbel
          go_wp2
          exact ⟨⟨i + 1, had, by omega, by go_num, rfl, HH.out, HB9.out⟩, by simp [intOf] <;> omega⟩
      · have HHAD := Lib.hid (show had = val x.D num by rw [Hid.out hhad, List.take_of_length_le (by have h := Hdw4.out.one.1; omega)]; exact val_last (rt_parts HRT.out).2.2.1)
        have hbw := Hid.out hbel
        clear hn9
        have Hdw5 := Lib.hid (Hdw4.out.below hbw)
        have Hew5 := Lib.hid (Hew4.out.below hbw)
        have HBw5 := Lib.hid (HBw4.out.trans (hbw.mono HBw4.out.size))
        clear hhad hbel hbw
        obtain ⟨f0, hf0⟩ : ∃ q, (s.toList == had.toList) = q := ⟨_, rfl⟩
        have HF0 := Lib.hid hf0
        generalize wr = w5 at *
        have qd0 := Hdw5.out.box.c0
        have qd1 := Hdw5.out.box.c1
        have qd2 := Hdw5.out.box.c2
        have qd3 := Hdw5.out.box.c3
        have qd4 := Hdw5.out.box.c4
        go_wp2_with fail
        clear qd0 qd1 qd2 qd3 qd4
        clear hf0
        have hm9 : m ≤ 16384 := by have h := HD.out.2; have h2 := Hdw5.out.two.1; omega
        go_loopw [14, 15, 63] (fun fv va v wr => ∃ (i : Nat) (f : Bool), i ≤ m ∧ v = .int .i64 i ∧ fv = .bool f ∧ Hid (Flg s had num (x.W.take i) f) ∧ Hid (MkK w5 wr va (List.replicate i true))) (fun _ _ v _ => m - (intOf v).toNat)
        case atStart => exact ⟨0, f0, Nat.zero_le _, by go_num, rfl, ⟨fun e => by rw [← HF0.out, e]; exact beq_self_eq_true _, fun b hb => by simp at hb⟩, Mk.nil (Below.refl _ _)⟩
        case round =>
          obtain ⟨i, f, hi, rfl, rfl, hfl, hmk⟩ := hrel
          have hbel : Hid (Below w5.heap.size w5 wr) := (Hid.out hmk).2
          by_cases hlt : i < m
          · have _ht := trivial
            obtain ⟨q, hq⟩ : ∃ q, x.W[i]? = some q := ⟨_, List.getElem?_eq_getElem (by have h := Hdw5.out.two.1; omega)⟩
            obtain ⟨-, -, -, BB, hBB, hLL⟩ := Hdw5.out.two.below (Hid.out hbel)
            obtain ⟨b, z, hAe, hbb, hr⟩ := hLL i q hq
            have hbs : b < wr.heap.size := Nat.lt_of_lt_of_le hbb hBB
            have hc0 : wr.cell? ⟨b, z + i * 2, none⟩ = some (.int .u32 q.n) := hr 0 _ rfl
            have hc1 : wr.cell? ⟨b, z + i * 2 + 1, none⟩ = some (.string q.d) := hr 1 _ rfl
            subst hAe
            clear hr hLL
            have hd0 : (wr.alloc (.cells #[.int .u32 q.n, .string q.d] 41)).cell? ⟨wr.heap.size, 0, none⟩ = some (.int .u32 q.n) := by simp
            have hd1 : (wr.alloc (.cells #[.int .u32 q.n, .string q.d] 41)).cell? ⟨wr.heap.size, 1, none⟩ = some (.string q.d) := by simp
            have HM := Lib.hid (show MkK w5 ((wr.alloc (.cells #[.int .u32 q.n, .string q.d] 41)).alloc (.cells #[.bool true] 4)) _ (List.replicate i true) from ((Hid.out hmk).alloc _).alloc _)
            have HLn := Lib.hid (ls_new_at (en := encK) (k := 1) (wr.alloc (.cells #[.int .u32 q.n, .string q.d] 41)) true 4 (N := wr.heap.size + 1) (by simp))
            cases hfq : f
            · rw [hfq] at hfl
              by_cases hqn : q.n = num
              · have hqe : ((q.n : Int) == (num : Int)) = true := by rw [beq_iff_eq]; exact congrArg Int.ofNat hqn
                by_cases hqd : q.d = s
                · have hqf : (q.d.toList == s.toList) = true := by rw [hqd]; exact beq_self_eq_true _
                  clear hqn hqd
                  have HFL := Lib.hid (show Flg s had num (x.W.take (i + 1)) true from by
                    exact ⟨fun _ => rfl, fun _ _ _ _ => rfl⟩)
                  clear hq hfl hmk hbel
                  go_wp2_with (at_builtin; refine catK HM.out [true] (some ⟨wr.heap.size + 1, 0, none⟩) 1 1 rfl HLn.out (by simp only [List.length_replicate]; omega) rfl _ _ rfl rfl rfl ?_; intro v3 w3 hM3 hG3; have HM3 := Lib.hid (show MkK w5 w3 v3 (List.replicate (i + 1) true) by rw [List.replicate_succ']; exact hM3); clear hM3 hG3)
                  exact ⟨⟨i + 1, true, by omega, by go_num, rfl, HFL.out, HM3.out⟩, by simp [intOf] <;> omega⟩
                · have hqf : (q.d.toList == s.toList) = false := by rw [str_eq]; exact decide_eq_false fun e => hqd (ByteArray.ext (Array.toList_inj.1 e))
                  have HFL := Lib.hid (show Flg s had num (x.W.take (i + 1)) false from by
                    refine ⟨(Hid.out hfl).1, fun b hb e1 e2 => ?_⟩
                    rw [take_snocB hq] at hb
                    rcases List.mem_append.1 hb with h | h
                    · exact (Hid.out hfl).2 b h e1 e2
                    · rw [List.mem_singleton.1 h] at e2; exact absurd e2 hqd)
                  clear hqn hqd hq hfl hmk hbel
                  go_wp2_with (at_builtin; refine catK HM.out [true] (some ⟨wr.heap.size + 1, 0, none⟩) 1 1 rfl HLn.out (by simp only [List.length_replicate]; omega) rfl _ _ rfl rfl rfl ?_; intro v3 w3 hM3 hG3; have HM3 := Lib.hid (show MkK w5 w3 v3 (List.replicate (i + 1) true) by rw [List.replicate_succ']; exact hM3); clear hM3 hG3)
                  exact ⟨⟨i + 1, false, by omega, by go_num, rfl, HFL.out, HM3.out⟩, by simp [intOf] <;> omega⟩
              · have hqe : ((q.n : Int) == (num : Int)) = false := by rw [beq_eq_false_iff_ne]; exact fun e => hqn (Int.ofNat.inj e)
                have HFL := Lib.hid (show Flg s had num (x.W.take (i + 1)) false from by
                  refine ⟨(Hid.out hfl).1, fun b hb e1 e2 => ?_⟩
                  rw [take_snocB hq] at hb
                  rcases List.mem_append.1 hb with h | h
                  · exact (Hid.out hfl).2 b h e1 e2
                  · rw [List.mem_singleton.1 h] at e1; exact absurd e1 hqn)
                clear hqn hq hfl hmk hbel
                go_wp2_with (at_builtin; refine catK HM.out [true] (some ⟨wr.heap.size + 1, 0, none⟩) 1 1 rfl HLn.out (by simp only [List.length_replicate]; omega) rfl _ _ rfl rfl rfl ?_; intro v3 w3 hM3 hG3; have HM3 := Lib.hid (show MkK w5 w3 v3 (List.replicate (i + 1) true) by rw [List.replicate_succ']; exact hM3); clear hM3 hG3)
                exact ⟨⟨i + 1, false, by omega, by go_num, rfl, HFL.out, HM3.out⟩, by simp [intOf] <;> omega⟩
            · clear hfl
              have HFL := Lib.hid (show Flg s had num (x.W.take (i + 1)) true from by
                exact ⟨fun _ => rfl, fun _ _ _ _ => rfl⟩)
              clear hq hmk hbel
              go_wp2_with (at_builtin; refine catK HM.out [true] (some ⟨wr.heap.size + 1, 0, none⟩) 1 1 rfl HLn.out (by simp only [List.length_replicate]; omega) rfl _ _ rfl rfl rfl ?_; intro v3 w3 hM3 hG3; have HM3 := Lib.hid (show MkK w5 w3 v3 (List.replicate (i + 1) true) by rw [List.replicate_succ']; exact hM3); clear hM3 hG3)
              exact ⟨⟨i + 1, true, by omega, by go_num, rfl, HFL.out, HM3.out⟩, by simp [intOf] <;> omega⟩
          · have him : i = m := by omega
            subst him
            have HWL := Lib.hid (show i = x.W.length from Hdw5.out.two.1)
            have HFL := Lib.hid (show Flg s had num x.W f from by have h := Hid.out hfl; rwa [List.take_of_length_le (by have := HWL.out; omega)] at h)
            obtain ⟨AJ, nj, cj, rfl, hsk⟩ := SlK.of_mk (Hid.out hmk)
            have HSK := Lib.hid (show SlK wr AJ nj (List.replicate x.W.length true) by rw [← HWL.out]; exact hsk)
            have hbw := (Hid.out hmk).2
            have Hdw6 := Lib.hid (Hdw5.out.below hbw)
            have Hew6 := Lib.hid (Hew5.out.below hbw)
            have HBw6 := Lib.hid (HBw5.out.trans (hbw.mono HBw5.out.size))
            clear hfl hmk hbel hbw hsk
            generalize wr = w6 at *
            have qd0 := Hdw6.out.box.c0
            have qd1 := Hdw6.out.box.c1
            have qd2 := Hdw6.out.box.c2
            have qd3 := Hdw6.out.box.c3
            have qd4 := Hdw6.out.box.c4
            go_wp2_with fail
            go_at_call 24
            refine (crashS (List.replicate x.W.length true) HSK.out Hdw6.out).mono ?_
            rw [Eo.out]
            rintro e w7 ⟨Au, nu, cu, Bu, mu, du, rfl, y1u, y2u, y3u, y4u, y5u, y6u, hb⟩
            have Y1u := Lib.hid y1u
            have Y2u := Lib.hid y2u
            have Hdw7 := Lib.hid (Hdw6.out.below hb)
            have Hew7 := Lib.hid (Hew6.out.below hb)
            have HBw7 := Lib.hid (HBw6.out.trans (hb.mono HBw6.out.size))
            clear qd0 qd1 qd2 qd3 qd4
            clear hb y1u y2u
            go_wp2_with (refine wpList_new (x := crX x (kp (List.replicate x.W.length true))) 18 88 rfl rfl rfl rfl Y1u.out Y2u.out y3u y4u y5u y6u ?_; intro w8 hb hd; have NEdf := Lib.hid (Nat.ne_of_lt Hdw7.out.lt); have NEfd := Lib.hid (Nat.ne_of_gt Hdw7.out.lt); have NEef := Lib.hid (Nat.ne_of_lt Hew7.out.lt); have NEfe := Lib.hid (Nat.ne_of_gt Hew7.out.lt); have Hdw8 := Lib.hid (Hdw7.out.below hb); have Hew8 := Lib.hid (Hew7.out.below hb); have HBw8 := Lib.hid (HBw7.out.trans (hb.mono HBw7.out.size)); have Hfw8 := Lib.hid hd; clear hb hd; have qf0 := Hfw8.out.box.c0; have qf1 := Hfw8.out.box.c1; have qf2 := Hfw8.out.box.c2; have qf3 := Hfw8.out.box.c3; have qf4 := Hfw8.out.box.c4)
            by_cases hN : x.N ≤ num
            · obtain rfl : w1v = 1 := by rw [← Ew.out, ← Ey.out, cr_rdO _ HRT.out, if_pos hN]
              have HN := Lib.hid hN
              clear hN
              go_at_call 18
              refine (readS num Hfw8.out).mono ?_
              rw [show rdO (crX x (kp (List.replicate x.W.length true))) num = 1 by rw [cr_rdO _ HRT.out]; exact if_pos HN.out]
              rintro e w9 ⟨rfl, hb⟩
              have Hdw9 := Lib.hid (Hdw8.out.below hb)
              have Hew9 := Lib.hid (Hew8.out.below hb)
              have Hfw9 := Lib.hid (Hfw8.out.below hb)
              have HBw9 := Lib.hid (HBw8.out.trans (hb.mono HBw8.out.size))
              clear qf0 qf1 qf2 qf3 qf4
              clear hb
              have qd0 := Hdw9.out.box.c0
              have qd1 := Hdw9.out.box.c1
              have qd2 := Hdw9.out.box.c2
              have qd3 := Hdw9.out.box.c3
              have qd4 := Hdw9.out.box.c4
              go_wp2_with fail
              go_at_call 18
              refine (readS num Hdw9.out).mono ?_
              rintro e w10 ⟨rfl, hb⟩
              have Hdw10 := Lib.hid (Hdw9.out.below hb)
              have Hew10 := Lib.hid (Hew9.out.below hb)
              have Hfw10 := Lib.hid (Hfw9.out.below hb)
              have HBw10 := Lib.hid (HBw9.out.trans (hb.mono HBw9.out.size))
              clear qd0 qd1 qd2 qd3 qd4
              clear hb
              have qd0 := Hdw10.out.box.c0
              have qd1 := Hdw10.out.box.c1
              have qd2 := Hdw10.out.box.c2
              have qd3 := Hdw10.out.box.c3
              have qd4 := Hdw10.out.box.c4
              go_wp2_with fail
              go_ret
              exact ⟨rfl, HBw10.out⟩
            · obtain rfl : w1v = 0 := by rw [← Ew.out, ← Ey.out, cr_rdO _ HRT.out, if_neg hN]
              obtain rfl : f = true := by
                have h := whole_or HRT.out (kp KL) hN
                rw [Ey.out, Es.out, ← HHAD.out] at h
                rcases h with h | ⟨b, h1, h2, h3⟩
                · exact HFL.out.1 h
                · exact HFL.out.2 b h1 h2 h3
              have HN := Lib.hid hN
              clear hN
              cases hdn : x.dn
              · have HDN := Lib.hid hdn
                clear hdn
                go_at_call 18
                refine (readS num Hfw8.out).mono ?_
                rw [show rdO (crX x (kp (List.replicate x.W.length true))) num = 0 by rw [cr_rdO _ HRT.out]; exact if_neg HN.out, whole_all HRT.out HDN.out]
                rintro e w9 ⟨rfl, hb⟩
                have Hdw9 := Lib.hid (Hdw8.out.below hb)
                have Hew9 := Lib.hid (Hew8.out.below hb)
                have Hfw9 := Lib.hid (Hfw8.out.below hb)
                have HBw9 := Lib.hid (HBw8.out.trans (hb.mono HBw8.out.size))
                clear qf0 qf1 qf2 qf3 qf4
                clear hb
                have qd0 := Hdw9.out.box.c0
                have qd1 := Hdw9.out.box.c1
                have qd2 := Hdw9.out.box.c2
                have qd3 := Hdw9.out.box.c3
                have qd4 := Hdw9.out.box.c4
                go_wp2_with fail
                go_at_call 18
                refine (readS num Hdw9.out).mono ?_
                rw [show rdO x num = 0 by rw [rdO_up HRT.out HDN.out]; exact if_neg HN.out]
                rintro e w10 ⟨rfl, hb⟩
                have Hdw10 := Lib.hid (Hdw9.out.below hb)
                have Hew10 := Lib.hid (Hew9.out.below hb)
                have Hfw10 := Lib.hid (Hfw9.out.below hb)
                have HBw10 := Lib.hid (HBw9.out.trans (hb.mono HBw9.out.size))
                clear qd0 qd1 qd2 qd3 qd4
                clear hb
                have qd0 := Hdw10.out.box.c0
                have qd1 := Hdw10.out.box.c1
                have qd2 := Hdw10.out.box.c2
                have qd3 := Hdw10.out.box.c3
                have qd4 := Hdw10.out.box.c4
                go_wp2_with fail
                go_ret
                exact ⟨rfl, HBw10.out⟩
              · have HDN := Lib.hid hdn
                clear hdn
                go_at_call 18
                refine (readS num Hfw8.out).mono ?_
                rw [show rdO (crX x (kp (List.replicate x.W.length true))) num = 0 by rw [cr_rdO _ HRT.out]; exact if_neg HN.out]
                rintro e w9 ⟨rfl, hb⟩
                have Hdw9 := Lib.hid (Hdw8.out.below hb)
                have Hew9 := Lib.hid (Hew8.out.below hb)
                have Hfw9 := Lib.hid (Hfw8.out.below hb)
                have HBw9 := Lib.hid (HBw8.out.trans (hb.mono HBw8.out.size))
                clear qf0 qf1 qf2 qf3 qf4
                clear hb
                have qd0 := Hdw9.out.box.c0
                have qd1 := Hdw9.out.box.c1
                have qd2 := Hdw9.out.box.c2
                have qd3 := Hdw9.out.box.c3
                have qd4 := Hdw9.out.box.c4
                go_wp2_with fail
                go_at_call 18
                refine (readS num Hdw9.out).mono ?_
                rw [show rdO x num = 17 by unfold rdO; rw [HRT.out, HDN.out]; rfl]
                rintro e w10 ⟨rfl, hb⟩
                have Hdw10 := Lib.hid (Hdw9.out.below hb)
                have Hew10 := Lib.hid (Hew9.out.below hb)
                have Hfw10 := Lib.hid (Hfw9.out.below hb)
                have HBw10 := Lib.hid (HBw9.out.trans (hb.mono HBw9.out.size))
                clear qd0 qd1 qd2 qd3 qd4
                clear hb
                have qd0 := Hdw10.out.box.c0
                have qd1 := Hdw10.out.box.c1
                have qd2 := Hdw10.out.box.c2
                have qd3 := Hdw10.out.box.c3
                have qd4 := Hdw10.out.box.c4
                go_wp2_with fail
                go_ret
                exact ⟨congrArg (fun q => Ending.returned (Value.bool q)) HDN.out, HBw10.out⟩
  · have hq : ¬ o = 0 := ho
    have HZ := Lib.hid (not_rt (x := x) (by rw [Eo.out]; exact ho) (kp KL))
    clear ho
    have HKL := Lib.hid hK
    clear hK
    obtain ⟨k1, k2⟩ := DV.boxed h1 h2 ln lm lo hi
    have Hd0 := Lib.hid k1
    have HB0 := Lib.hid k2
    clear k1 k2
    go_enter Tryd.func6, Tryd.ntmps6
    go_wp2_with fail
    generalize w.alloc _ = w0 at *
    go_at_call 20
    refine (lives_true w0).mono ?_
    rintro e w1 ⟨rfl, hb⟩
    have Hdw1 := Lib.hid (Hd0.out.below hb)
    have HBw1 := Lib.hid (HB0.out.trans (hb.mono HB0.out.size))
    clear hb
    have qd0 := Hdw1.out.box.c0
    have qd1 := Hdw1.out.box.c1
    have qd2 := Hdw1.out.box.c2
    have qd3 := Hdw1.out.box.c3
    have qd4 := Hdw1.out.box.c4
    go_wp2_with fail
    go_at_call 24
    refine (crashS KL (HKL.out.below HBw1.out) Hdw1.out).mono ?_
    rw [HZ.out, Eo.out]
    rintro e w2 ⟨Ar, nr, cr, Br, mr, dr, rfl, y1r, y2r, y3r, y4r, y5r, y6r, hb⟩
    have Y1r := Lib.hid y1r
    have Y2r := Lib.hid y2r
    have Hdw2 := Lib.hid (Hdw1.out.below hb)
    have HBw2 := Lib.hid (HBw1.out.trans (hb.mono HBw1.out.size))
    clear qd0 qd1 qd2 qd3 qd4
    clear hb y1r y2r
    go_wp2_with (refine wpList_new (x := De.zero) 7 30 rfl rfl rfl rfl Y1r.out Y2r.out y3r y4r y5r y6r ?_; intro w3 hb hd; have NEde := Lib.hid (Nat.ne_of_lt Hdw2.out.lt); have NEed := Lib.hid (Nat.ne_of_gt Hdw2.out.lt); have Hdw3 := Lib.hid (Hdw2.out.below hb); have HBw3 := Lib.hid (HBw2.out.trans (hb.mono HBw2.out.size)); have Hew3 := Lib.hid hd; clear hb hd; have qe0 := Hew3.out.box.c0; have qe1 := Hew3.out.box.c1; have qe2 := Hew3.out.box.c2; have qe3 := Hew3.out.box.c3; have qe4 := Hew3.out.box.c4)
    go_ret
    exact ⟨rfl, HBw3.out⟩
end Go.Proofs.YtjkapmghifglcaaDoor.Dv
