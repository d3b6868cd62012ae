/- The document's own Order of two superblocks. -/
import Derived.Test.YtlchjohaacbkpaaGreatDoorRsO
namespace Go.Proofs.YtlchjohaacbkpaaGreatDoor.Rs
set_option linter.unusedVariables false
set_option linter.unusedSimpArgs false
open Go.ChangeShapes Go.WideShapes Go.ChangeAt Go.RowKit
open Sp Nd Rg Ar
open BigFrame
/-- the row of the two blocks' data -/
def DrAt (w : World) (g : Nat) (a b : ByteArray) : Prop := w.heap[g]? = some (.cells #[.string a, .string b] 9 (0, 0))
theorem DrAt.c0 {w : World} {g : Nat} {a b : ByteArray} (h : DrAt w g a b) : w.cell? ⟨g, 0, none⟩ = some (.string a) := cell_of_row _ _ 0 _ _ _ h
theorem DrAt.c1 {w : World} {g : Nat} {a b : ByteArray} (h : DrAt w g a b) : w.cell? ⟨g, 1, none⟩ = some (.string b) := cell_of_row _ _ 1 _ _ _ h
theorem DrAt.below {w w' : World} {g : Nat} {a b : ByteArray} (h : DrAt w g a b) (hb : Below w.heap.size w w') : DrAt w' g a b := (hb.block g (row_lt h)).trans h
theorem DrAt.drewN {w : World} {g : Nat} {a b : ByteArray} (h : DrAt w g a b) (n : Nat) : DrAt (w.drewN n) g a b := h
theorem DrAt.grown {w w' wb : World} {g : Nat} {a b : ByteArray} {v : Value} {L : List Su} (h : DrAt w g a b) (hM : MkS wb w v L) (hg : w.grownBy w' v.ownBlock) : DrAt w' g a b :=
  (hg.block g (row_lt h) (fun e => hM.off h (by decide) e.symm)).trans h
/-- the list so far -/
inductive St (wb : World) (a b : ByteArray) : Nat → World → Value → Prop
  | zero {w : World} (h : Below wb.heap.size wb w) : St wb a b 0 w (.slice none 0 0)
  | one {w : World} {v : Value} (h : MkS wb w v (inS a 0)) : St wb a b 1 w v
  | two {w : World} {v : Value} (h : SAt w v (ordS a b)) (hb : Below wb.heap.size wb w) : St wb a b 2 w v
theorem arr_one {wb w : World} {q c : Nat} {p : Su} (h : MkS wb w (.slice (some ⟨q, 0, none⟩) (1 : Nat) c) [p]) : w.rangeAt q 0 (Ss.enc p) := by
  obtain ⟨A, c', e, _, _, hL⟩ := h.ls Ss.enc_len
  cases e
  obtain ⟨b, o, hA, _, hr⟩ := hL 0 p rfl
  cases hA
  simpa using hr
theorem arr_lt {wb w : World} {q c : Nat} {p : Su} (h : MkS wb w (.slice (some ⟨q, 0, none⟩) (1 : Nat) c) [p]) : q < w.heap.size := by
  obtain ⟨A, c', e, _, _, hL⟩ := h.ls Ss.enc_len
  cases e
  obtain ⟨b, o, hA, hl, hr⟩ := hL 0 p rfl
  cases hA
  exact hl
set_option maxRecDepth 100000 in
set_option maxHeartbeats 8000000 in
theorem rorder_su (a b : ByteArray) (ha : a.size ≤ 140737488351232) (hb : b.size ≤ 140737488351232) (w : World) :
    Calls Tryz.prog 36 #[.string a, .string b] w fun e w' => ∃ v, e = .returned v ∧ SAt w' v (ordS a b) ∧ Below w.heap.size w w' := by
  obtain ⟨wb, hwb⟩ : ∃ wb, wb = w := ⟨_, rfl⟩
  have HX0 := Lib.hid (show DrAt (w.alloc (.cells #[.string a, .string b] 9)) w.heap.size a b from heap_alloc_new w _)
  have HS0 := Lib.hid (show St wb a b 0 (w.alloc (.cells #[.string a, .string b] 9)) (.slice none 0 0) from St.zero (by rw [hwb]; exact (Below.refl _ _).alloc (Nat.le_refl _) _))
  rw [show Below w.heap.size w = Below wb.heap.size wb by rw [hwb]]
  go_enter Tryz.func36, Tryz.ntmps36
  go_wp2_with fail
  generalize w.alloc _ = W at *
  generalize w.heap.size = g at *
  clear hwb
  go_loopw [5, 14] (fun v u wr => ∃ i : Nat, i ≤ 2 ∧ u = .int .i64 i ∧ Hid (DrAt wr g a b) ∧ Hid (St wb a b i wr v)) (fun _ u _ => 2 - (intOf u).toNat)
  case atStart => exact ⟨0, by omega, rfl, HX0.out, HS0.out⟩
  case round =>
    clear HX0 HS0
    obtain ⟨i, hi, rfl, hxr, hst⟩ := hrel
    have hst := Hid.out hst
    cases hst with
    | zero hbel =>
      have HMV := Lib.hid (show MkS wb wr (.slice none 0 0) [] from Mk.nil hbel)
      have HFW := Lib.hid (show ([] : List Su).length ≤ 2 from Nat.zero_le _)
      clear hbel
      have HC := Lib.hid (fun w => rdecode_su a ha w)
      by_cases hd : IsS a
      · obtain ⟨e1, e2⟩ := de_is hd
        rw [enc_tk, e1, e2] at HC
        have HSL := Lib.hid (fun w => rslot_any (tkS a) w)
        have hv := enc_tk a
        rw [e1] at hv
        rw [hv] at HSL
        have HIN := Lib.hid (fun h : slotS (tkS a) = 0 => inS_yes hd h)
        have HIX := Lib.hid (fun h : ¬ slotS (tkS a) = 0 => inS_no (d := a) (i := 0) (fun h' => h h'.2))
        clear e1 e2 hv hd
        obtain ⟨s, hs⟩ : ∃ s, tkS a = s := ⟨_, rfl⟩
        rw [hs] at HC HSL HIN HIX
        clear hs
        have HCI := Lib.hid (infoSe s)
        have HCZ := Lib.hid (encS_sz s)
        have HCO := Lib.hid (all_oneCell_toArray (Ss.enc_one s))
        have c0 := (Hid.out hxr).c0
        have c1 := (Hid.out hxr).c1
        go_wp2_with fail
        clear c0 c1
        refine (HC.out _).mono ?_
        rintro e w1 ⟨rfl, hb⟩
        have HX1 := Lib.hid ((Hid.out hxr).below hb)
        have HM1 := Lib.hid (HMV.out.go hb)
        clear hb hxr HMV HC
        go_wp2_with (first | (refine wpList_fresh rfl 44 (.tmp 8) (.tmp 22) rfl (Ss.enc s).toArray zS 44 rfl rfl HCI.out HCZ.out HCO.out ?_; intro w2 hb hrow hsz; have HX2 := Lib.hid (HX1.out.below hb); have HM2 := Lib.hid (HM1.out.go hb); have HQ2 := Lib.hid hrow; clear hb hrow hsz HX1 HM1) | (refine wpList_load_row_g 44 (.tmp 8) rfl (by rfl) w1.heap.size rfl 44 (Ss.enc s).toArray (0, 0) _ HQ2.out Tryz.underlying44 rfl HCI.out ?_))
        refine (HSL.out _).mono ?_
        rintro e w4 ⟨rfl, hb⟩
        have HX4 := Lib.hid (HX2.out.below hb)
        have HM4 := Lib.hid (HM2.out.go hb)
        have HQ4 := Lib.hid ((hb.block _ (row_lt HQ2.out)).trans HQ2.out)
        clear hb HX2 HM2 HQ2 HSL
        by_cases hsl : slotS s = 0
        · have h1 : (((slotS s : Nat) : Int) != 0) = false := by rw [hsl]; rfl
          have HI1 := Lib.hid (HIN.out hsl)
          clear HIN HIX hsl
          go_wp2_with fail
          go_big_quiet (fail)
          have HX4q := Lib.hid (HX4.out.drewN nq)
          have HM4q := Lib.hid (HM4.out.drewN nq)
          have HQ4q := Lib.hid (show (w4.drewN nq).heap[w1.heap.size]? = _ from HQ4.out)
          clear HX4 HM4 HQ4
          generalize w4.drewN nq = w4 at *
          have HX4 := HX4q
          have HM4 := HM4q
          have HQ4 := HQ4q
          clear HX4q HM4q HQ4q
          go_wp2_with (first
            | (refine wpList_load_row rfl 44 (.tmp 8) rfl w1.heap.size rfl 44 (Ss.enc s).toArray (0, 0) _ HQ4.out Tryz.underlying44 rfl HCI.out ?_)
            | (refine wpList_oneS (.tmp 50) s rfl rfl rfl ?_; have hal : Below w4.heap.size w4 (w4.alloc (.cells (Ss.enc s).toArray 44)) := (Below.refl _ _).alloc (Nat.le_refl _) _; have HX5 := Lib.hid (HX4.out.below hal); have HN5 := Lib.hid (heap_alloc_new w4 (.cells (Ss.enc s).toArray 44)); have HM5 := Lib.hid (HM4.out.go hal); clear hal)
            | (refine wpList_catS HM5.out s w4.heap.size 1 HN5.out (by have := HFW.out; omega) rfl _ _ rfl rfl rfl ?_; intro v6 w6 hM6 hG6; obtain ⟨A6, n6, c6, rfl⟩ : ∃ A n c, v6 = .slice A n c := (by obtain ⟨A, c, h, _⟩ := hM6.ls Ss.enc_len; exact ⟨A, _, c, h⟩); have HX6 := Lib.hid (HX5.out.grown (HM5.out) hG6); have HM6 := Lib.hid hM6; clear hM6 hG6 HX5 HN5 HM5))
          have HSt := Lib.hid (show St wb a b 1 w6 (.slice A6 n6 c6) from St.one (by rw [HI1.out]; exact HM6.out))
          exact ⟨⟨1, by omega, by go_num, HX6.out, HSt.out⟩, by simp [intOf]⟩

        · have h1 : (((slotS s : Nat) : Int) != 0) = true := by rw [bne_iff_ne]; omega
          have HI0 := Lib.hid (HIX.out hsl)
          clear HIN HIX hsl
          go_wp2
          have HSt := Lib.hid (show St wb a b 1 w4 (.slice none 0 0) from St.one (by rw [HI0.out]; exact HM4.out))
          exact ⟨⟨1, by omega, by go_num, HX4.out, HSt.out⟩, by simp [intOf]⟩

      · have e2 := de_isn hd
        rw [enc_tk, e2] at HC
        have HI0 := Lib.hid (inS_no (d := a) (i := 0) (fun h => hd h.1))
        clear e2 hd
        obtain ⟨s, hs⟩ : ∃ s, deV a = s := ⟨_, rfl⟩
        rw [hs] at HC
        clear hs
        have HCI := Lib.hid (infoSe s)
        have HCZ := Lib.hid (encS_sz s)
        have HCO := Lib.hid (all_oneCell_toArray (Ss.enc_one s))
        have c0 := (Hid.out hxr).c0
        have c1 := (Hid.out hxr).c1
        go_wp2_with fail
        clear c0 c1
        refine (HC.out _).mono ?_
        rintro e w1 ⟨rfl, hb⟩
        have HX1 := Lib.hid ((Hid.out hxr).below hb)
        have HM1 := Lib.hid (HMV.out.go hb)
        clear hb hxr HMV HC
        go_wp2_with (refine wpList_fresh rfl 44 (.tmp 8) (.tmp 22) rfl (Ss.enc s).toArray zS 44 rfl rfl HCI.out HCZ.out HCO.out ?_; intro w2 hb hrow hsz; have HX2 := Lib.hid (HX1.out.below hb); have HM2 := Lib.hid (HM1.out.go hb); have HQ2 := Lib.hid hrow; clear hb hrow hsz HX1 HM1)
        have HSt := Lib.hid (show St wb a b 1 w2 (.slice none 0 0) from St.one (by rw [HI0.out]; exact HM2.out))
        exact ⟨⟨1, by omega, by go_num, HX2.out, HSt.out⟩, by simp [intOf]⟩
    | one hM =>
      have d : decide ((1 : Int) < 2) = true := rfl
      rcases inS_cases a 0 with h0 | ⟨p, h0, _⟩
      · rw [h0] at hM
        obtain ⟨A, c, rfl, _, _, _⟩ := id (hM.ls Ss.enc_len)
        have HMV := Lib.hid (show MkS wb wr (.slice A (0 : Nat) c) [] from hM)
        have HFW := Lib.hid (show ([] : List Su).length ≤ 2 from Nat.zero_le _)
        have HOA := Lib.hid (fun (s : Su) (h : inS b 1 = [s]) => (by unfold ordS; rw [h0, h]; rfl : ordS a b = [] ++ [s]))
        have HON := Lib.hid (fun (h : inS b 1 = []) => (by unfold ordS; rw [h0, h]; rfl : ordS a b = []))
        clear hM h0
        have HC := Lib.hid (fun w => rdecode_su b hb w)
        by_cases hd : IsS b
        · obtain ⟨e1, e2⟩ := de_is hd
          rw [enc_tk, e1, e2] at HC
          have HSL := Lib.hid (fun w => rslot_any (tkS b) w)
          have hv := enc_tk b
          rw [e1] at hv
          rw [hv] at HSL
          have HIN := Lib.hid (fun h : slotS (tkS b) = 1 => inS_yes hd h)
          have HIX := Lib.hid (fun h : ¬ slotS (tkS b) = 1 => inS_no (d := b) (i := 1) (fun h' => h h'.2))
          clear e1 e2 hv hd
          obtain ⟨s, hs⟩ : ∃ s, tkS b = s := ⟨_, rfl⟩
          rw [hs] at HC HSL HIN HIX
          clear hs
          have HCI := Lib.hid (infoSe s)
          have HCZ := Lib.hid (encS_sz s)
          have HCO := Lib.hid (all_oneCell_toArray (Ss.enc_one s))
          have c0 := (Hid.out hxr).c0
          have c1 := (Hid.out hxr).c1
          go_wp2_with fail
          clear c0 c1
          refine (HC.out _).mono ?_
          rintro e w1 ⟨rfl, hb⟩
          have HX1 := Lib.hid ((Hid.out hxr).below hb)
          have HM1 := Lib.hid (HMV.out.go hb)
          clear hb hxr HMV HC
          go_wp2_with (first | (refine wpList_fresh rfl 44 (.tmp 8) (.tmp 22) rfl (Ss.enc s).toArray zS 44 rfl rfl HCI.out HCZ.out HCO.out ?_; intro w2 hb hrow hsz; have HX2 := Lib.hid (HX1.out.below hb); have HM2 := Lib.hid (HM1.out.go hb); have HQ2 := Lib.hid hrow; clear hb hrow hsz HX1 HM1) | (refine wpList_load_row_g 44 (.tmp 8) rfl (by rfl) w1.heap.size rfl 44 (Ss.enc s).toArray (0, 0) _ HQ2.out Tryz.underlying44 rfl HCI.out ?_))
          refine (HSL.out _).mono ?_
          rintro e w4 ⟨rfl, hb⟩
          have HX4 := Lib.hid (HX2.out.below hb)
          have HM4 := Lib.hid (HM2.out.go hb)
          have HQ4 := Lib.hid ((hb.block _ (row_lt HQ2.out)).trans HQ2.out)
          clear hb HX2 HM2 HQ2 HSL
          by_cases hsl : slotS s = 1
          · have h1 : (((slotS s : Nat) : Int) != 1) = false := by rw [hsl]; rfl
            have HI1 := Lib.hid (HIN.out hsl)
            clear HIN HIX hsl
            go_wp2_with fail
            go_big_quiet (fail)
            have HX4q := Lib.hid (HX4.out.drewN nq)
            have HM4q := Lib.hid (HM4.out.drewN nq)
            have HQ4q := Lib.hid (show (w4.drewN nq).heap[w1.heap.size]? = _ from HQ4.out)
            clear HX4 HM4 HQ4
            generalize w4.drewN nq = w4 at *
            have HX4 := HX4q
            have HM4 := HM4q
            have HQ4 := HQ4q
            clear HX4q HM4q HQ4q
            go_wp2_with (first
              | (refine wpList_load_row rfl 44 (.tmp 8) rfl w1.heap.size rfl 44 (Ss.enc s).toArray (0, 0) _ HQ4.out Tryz.underlying44 rfl HCI.out ?_)
              | (refine wpList_oneS (.tmp 50) s rfl rfl rfl ?_; have hal : Below w4.heap.size w4 (w4.alloc (.cells (Ss.enc s).toArray 44)) := (Below.refl _ _).alloc (Nat.le_refl _) _; have HX5 := Lib.hid (HX4.out.below hal); have HN5 := Lib.hid (heap_alloc_new w4 (.cells (Ss.enc s).toArray 44)); have HM5 := Lib.hid (HM4.out.go hal); clear hal)
              | (refine wpList_catS HM5.out s w4.heap.size 1 HN5.out (by have := HFW.out; omega) rfl _ _ rfl rfl rfl ?_; intro v6 w6 hM6 hG6; obtain ⟨A6, n6, c6, rfl⟩ : ∃ A n c, v6 = .slice A n c := (by obtain ⟨A, c, h, _⟩ := hM6.ls Ss.enc_len; exact ⟨A, _, c, h⟩); have HX6 := Lib.hid (HX5.out.grown (HM5.out) hG6); have HM6 := Lib.hid hM6; clear hM6 hG6 HX5 HN5 HM5))
            have HSt := Lib.hid (show St wb a b 2 w6 (.slice A6 n6 c6) from St.two (by rw [HOA.out _ HI1.out]; exact sat_mk HM6.out) HM6.out.2)
            exact ⟨⟨2, by omega, by go_num, HX6.out, HSt.out⟩, by simp [intOf]⟩

          · have h1 : (((slotS s : Nat) : Int) != 1) = true := by rw [bne_iff_ne]; omega
            have HI0 := Lib.hid (HIX.out hsl)
            clear HIN HIX hsl
            go_wp2
            have HSt := Lib.hid (show St wb a b 2 w4 (.slice A (0 : Nat) c) from St.two (by rw [HON.out HI0.out]; exact sat_mk HM4.out) HM4.out.2)
            exact ⟨⟨2, by omega, by go_num, HX4.out, HSt.out⟩, by simp [intOf]⟩

        · have e2 := de_isn hd
          rw [enc_tk, e2] at HC
          have HI0 := Lib.hid (inS_no (d := b) (i := 1) (fun h => hd h.1))
          clear e2 hd
          obtain ⟨s, hs⟩ : ∃ s, deV b = s := ⟨_, rfl⟩
          rw [hs] at HC
          clear hs
          have HCI := Lib.hid (infoSe s)
          have HCZ := Lib.hid (encS_sz s)
          have HCO := Lib.hid (all_oneCell_toArray (Ss.enc_one s))
          have c0 := (Hid.out hxr).c0
          have c1 := (Hid.out hxr).c1
          go_wp2_with fail
          clear c0 c1
          refine (HC.out _).mono ?_
          rintro e w1 ⟨rfl, hb⟩
          have HX1 := Lib.hid ((Hid.out hxr).below hb)
          have HM1 := Lib.hid (HMV.out.go hb)
          clear hb hxr HMV HC
          go_wp2_with (refine wpList_fresh rfl 44 (.tmp 8) (.tmp 22) rfl (Ss.enc s).toArray zS 44 rfl rfl HCI.out HCZ.out HCO.out ?_; intro w2 hb hrow hsz; have HX2 := Lib.hid (HX1.out.below hb); have HM2 := Lib.hid (HM1.out.go hb); have HQ2 := Lib.hid hrow; clear hb hrow hsz HX1 HM1)
          have HSt := Lib.hid (show St wb a b 2 w2 (.slice A (0 : Nat) c) from St.two (by rw [HON.out HI0.out]; exact sat_mk HM2.out) HM2.out.2)
          exact ⟨⟨2, by omega, by go_num, HX2.out, HSt.out⟩, by simp [intOf]⟩
      · rw [h0] at hM
        rcases hM.arr Ss.enc_len with ⟨_, hn⟩ | ⟨q, c, rfl, _, _, _, _, _⟩
        · cases hn
        have HMV := Lib.hid (show MkS wb wr (.slice (some ⟨q, 0, none⟩) (1 : Nat) c) [p] from hM)
        have HFW := Lib.hid (show ([p] : List Su).length ≤ 2 from Nat.le_of_ble_eq_true rfl)
        have HON := Lib.hid (fun (h : inS b 1 = []) => (by unfold ordS; rw [h0, h]; rfl : ordS a b = [p]))
        have HON1 := Lib.hid (fun (s : Su) (h : inS b 1 = [s]) (hg : ¬ p.G < s.G) => (by unfold ordS; rw [h0, h]; exact if_neg hg : ordS a b = [p] ++ [s]))
        have HON2 := Lib.hid (fun (s : Su) (h : inS b 1 = [s]) (hg : p.G < s.G) => (by unfold ordS; rw [h0, h]; exact if_pos hg : ordS a b = [s, p]))
        clear hM h0
        have HC := Lib.hid (fun w => rdecode_su b hb w)
        by_cases hd : IsS b
        · obtain ⟨e1, e2⟩ := de_is hd
          rw [enc_tk, e1, e2] at HC
          have HSL := Lib.hid (fun w => rslot_any (tkS b) w)
          have hv := enc_tk b
          rw [e1] at hv
          rw [hv] at HSL
          have HIN := Lib.hid (fun h : slotS (tkS b) = 1 => inS_yes hd h)
          have HIX := Lib.hid (fun h : ¬ slotS (tkS b) = 1 => inS_no (d := b) (i := 1) (fun h' => h h'.2))
          clear e1 e2 hv hd
          obtain ⟨s, hs⟩ : ∃ s, tkS b = s := ⟨_, rfl⟩
          rw [hs] at HC HSL HIN HIX
          clear hs
          have HCI := Lib.hid (infoSe s)
          have HCZ := Lib.hid (encS_sz s)
          have HCO := Lib.hid (all_oneCell_toArray (Ss.enc_one s))
          have c0 := (Hid.out hxr).c0
          have c1 := (Hid.out hxr).c1
          go_wp2_with fail
          clear c0 c1
          refine (HC.out _).mono ?_
          rintro e w1 ⟨rfl, hb⟩
          have HX1 := Lib.hid ((Hid.out hxr).below hb)
          have HM1 := Lib.hid (HMV.out.go hb)
          clear hb hxr HMV HC
          go_wp2_with (first | (refine wpList_fresh rfl 44 (.tmp 8) (.tmp 22) rfl (Ss.enc s).toArray zS 44 rfl rfl HCI.out HCZ.out HCO.out ?_; intro w2 hb hrow hsz; have HX2 := Lib.hid (HX1.out.below hb); have HM2 := Lib.hid (HM1.out.go hb); have HQ2 := Lib.hid hrow; clear hb hrow hsz HX1 HM1) | (refine wpList_load_row_g 44 (.tmp 8) rfl (by rfl) w1.heap.size rfl 44 (Ss.enc s).toArray (0, 0) _ HQ2.out Tryz.underlying44 rfl HCI.out ?_))
          refine (HSL.out _).mono ?_
          rintro e w4 ⟨rfl, hb⟩
          have HX4 := Lib.hid (HX2.out.below hb)
          have HM4 := Lib.hid (HM2.out.go hb)
          have HQ4 := Lib.hid ((hb.block _ (row_lt HQ2.out)).trans HQ2.out)
          clear hb HX2 HM2 HQ2 HSL
          by_cases hsl : slotS s = 1
          · have h1 : (((slotS s : Nat) : Int) != 1) = false := by rw [hsl]; rfl
            have HI1 := Lib.hid (HIN.out hsl)
            clear HIN HIX hsl
            have HAR4 := Lib.hid (arr_one HM4.out)
            have d1 : w4.cell? ⟨q, 1, none⟩ = some (.int .u64 p.G) := by
              have := HAR4.out 1 (.int .u64 p.G) rfl
              simpa using this
            have d2 : w4.cell? ⟨w1.heap.size, 1, none⟩ = some (.int .u64 s.G) := (cell_of_row _ _ 1 _ _ _ HQ4.out).trans rfl
            by_cases hg : p.G < s.G
            · have t1 : decide (p.G < s.G) = true := by simpa using hg
              have t2 : decide ((p.G : Int) < (s.G : Int)) = true := by simpa using hg
              have HOS := Lib.hid (HON2.out _ HI1.out hg)
              clear hg
              go_wp2_with fail
              go_big_quiet (fail)
              have HX4q := Lib.hid (HX4.out.drewN nq)
              have HM4q := Lib.hid (HM4.out.drewN nq)
              have HQ4q := Lib.hid (show (w4.drewN nq).heap[w1.heap.size]? = _ from HQ4.out)
              clear HX4 HM4 HQ4 HAR4 d1 d2
              generalize w4.drewN nq = w4 at *
              have HX4 := HX4q
              have HM4 := HM4q
              have HQ4 := HQ4q
              clear HX4q HM4q HQ4q
              have HAR4 := Lib.hid (arr_one HM4.out)
              go_wp2_with fail
              refine wp_region_T (fun w' : World => w'.heap[w1.heap.size]? = some (.cells (Ss.enc s).toArray 44 (0, 0)) ∧ w'.rangeAt q 0 (Ss.enc p)) 5 (by kernel_rfl) (by kernel_rfl) ?_
              have hS := (⟨HQ4.out, HAR4.out⟩ : w4.drew.heap[w1.heap.size]? = some (.cells (Ss.enc s).toArray 44 (0, 0)) ∧ w4.drew.rangeAt q 0 (Ss.enc p))
              refine take_T 0 44 (.agg (Ss.enc s).toArray) rfl (by rfl) (by kernel_rfl) (by decide) (by kernel_rfl) (by kernel_rfl) (by kernel_rfl) (fun _ _ _ h => h) (Or.inl ⟨by rfl, fun w' hSw => by obtain ⟨s0, s1⟩ := hSw; exact row_run' 44 rfl w1.heap.size rfl _ _ (0, 0) _ s0 Tryz.underlying44 rfl (infoSe s)⟩) hS ?_
              simp only [List.setIfInBounds_toArray, List.set_cons_zero, List.set_cons_succ]
              refine take_T 1 45 (.slice (some ⟨q, 0, none⟩) (1 : Nat) c) rfl (by rfl) (by kernel_rfl) (by decide) (by kernel_rfl) (by kernel_rfl) (by kernel_rfl) (fun _ _ _ h => h) (Or.inl ⟨by rfl, fun w' hSw => by obtain ⟨s0, s1⟩ := hSw; go_simp⟩) hS ?_
              simp only [List.setIfInBounds_toArray, List.set_cons_zero, List.set_cons_succ]
              refine take_T 2 46 (.pointer (some ⟨q, 0, none⟩)) rfl (by rfl) (by kernel_rfl) (by decide) (by kernel_rfl) (by kernel_rfl) (by kernel_rfl) (fun _ _ _ h => h) (Or.inl ⟨by rfl, fun w' hSw => by obtain ⟨s0, s1⟩ := hSw; go_simp⟩) hS ?_
              simp only [List.setIfInBounds_toArray, List.set_cons_zero, List.set_cons_succ]
              refine take_T 3 47 (.agg (Ss.enc p).toArray) rfl (by rfl) (by kernel_rfl) (by decide) (by kernel_rfl) (by kernel_rfl) (by kernel_rfl) (fun _ _ _ h => h) (Or.inl ⟨by rfl, fun w' hSw => by obtain ⟨s0, s1⟩ := hSw; exact load_run 44 (.tmp 46) rfl q 0 rfl (Ss.enc p) _ s1 Tryz.underlying44 rfl (by rw [Ss.enc_len]; exact infoS35)⟩) hS ?_
              simp only [List.setIfInBounds_toArray, List.set_cons_zero, List.set_cons_succ]
              refine only_T 4 rfl (by kernel_rfl) (by decide) (by rfl) (fun K hK => ?_)
              have HQLT := Lib.hid (arr_lt HM4.out)
              refine op_twoS (.tmp 44) (.tmp 47) s p rfl rfl rfl ?_
              have hal : Below w4.drew.heap.size w4.drew (w4.drew.alloc (.cells ([s, p].flatMap Ss.enc).toArray 44)) := (Below.refl _ _).alloc (Nat.le_refl _) _
              have HX5 := Lib.hid ((show DrAt w4.drew g a b from HX4.out).below hal)
              have HB5 := Lib.hid (show Below wb.heap.size wb (w4.drew.alloc (.cells ([s, p].flatMap Ss.enc).toArray 44)) from HM4.out.2.drew.trans (hal.mono HM4.out.2.size))
              have HS5 := Lib.hid (show SAt (w4.drew.alloc (.cells ([s, p].flatMap Ss.enc).toArray 44)) (.slice (some ⟨w4.drew.heap.size, 0, none⟩) 2 2) [s, p] from ⟨_, 2, 2, rfl, rfl, Nat.le_refl _, Ls.made Ss.enc_len w4.drew [s, p] 44 _ (by simp)⟩)
              have hS2 := (⟨(hal.block _ (row_lt HQ4.out)).trans HQ4.out, fun j u hu => (Below.cell hal (p := ⟨q, 0 + j, none⟩) (show q < w4.drew.heap.size from HQLT.out)).trans (HAR4.out j u hu)⟩ : (w4.drew.alloc (.cells ([s, p].flatMap Ss.enc).toArray 44)).heap[w1.heap.size]? = some (.cells (Ss.enc s).toArray 44 (0, 0)) ∧ (w4.drew.alloc (.cells ([s, p].flatMap Ss.enc).toArray 44)).rangeAt q 0 (Ss.enc p))
              refine hK.out _ _ hS2 ?_
              clear hK K
              try simp only [Act.put, List.setIfInBounds_toArray, List.set_cons_zero, List.set_cons_succ]
              refine done_T (by kernel_rfl) ?_
              simp only [List.drop_succ_cons, List.drop_zero]
              clear hS hS2 hal
              generalize w4.drew.alloc _ = w6 at *
              generalize w4.drew.heap.size = g6 at *
              go_wp2
              have HSt := Lib.hid (show St wb a b 2 w6 (.slice (some ⟨g6, 0, none⟩) 2 2) from St.two (by rw [HOS.out]; exact HS5.out) HB5.out)
              exact ⟨⟨2, by omega, by go_num, HX5.out, HSt.out⟩, by simp [intOf]⟩
            · have t1 : decide (p.G < s.G) = false := by simpa using hg
              have t2 : decide ((p.G : Int) < (s.G : Int)) = false := by simpa using hg
              have HOS := Lib.hid (HON1.out _ HI1.out hg)
              clear hg
              go_wp2_with fail
              go_big_quiet (fail)
              have HX4q := Lib.hid (HX4.out.drewN nq)
              have HM4q := Lib.hid (HM4.out.drewN nq)
              have HQ4q := Lib.hid (show (w4.drewN nq).heap[w1.heap.size]? = _ from HQ4.out)
              clear HX4 HM4 HQ4 HAR4 d1 d2
              generalize w4.drewN nq = w4 at *
              have HX4 := HX4q
              have HM4 := HM4q
              have HQ4 := HQ4q
              clear HX4q HM4q HQ4q
              go_wp2_with (first
                | (refine wpList_load_row rfl 44 (.tmp 8) rfl w1.heap.size rfl 44 (Ss.enc s).toArray (0, 0) _ HQ4.out Tryz.underlying44 rfl HCI.out ?_)
                | (refine wpList_oneS (.tmp 50) s rfl rfl rfl ?_; have hal : Below w4.heap.size w4 (w4.alloc (.cells (Ss.enc s).toArray 44)) := (Below.refl _ _).alloc (Nat.le_refl _) _; have HX5 := Lib.hid (HX4.out.below hal); have HN5 := Lib.hid (heap_alloc_new w4 (.cells (Ss.enc s).toArray 44)); have HM5 := Lib.hid (HM4.out.go hal); clear hal)
                | (refine wpList_catS HM5.out s w4.heap.size 1 HN5.out (by have := HFW.out; omega) rfl _ _ rfl rfl rfl ?_; intro v6 w6 hM6 hG6; obtain ⟨A6, n6, c6, rfl⟩ : ∃ A n c, v6 = .slice A n c := (by obtain ⟨A, c, h, _⟩ := hM6.ls Ss.enc_len; exact ⟨A, _, c, h⟩); have HX6 := Lib.hid (HX5.out.grown (HM5.out) hG6); have HM6 := Lib.hid hM6; clear hM6 hG6 HX5 HN5 HM5))
              have HSt := Lib.hid (show St wb a b 2 w6 (.slice A6 n6 c6) from St.two (by rw [HOS.out]; exact sat_mk HM6.out) HM6.out.2)
              exact ⟨⟨2, by omega, by go_num, HX6.out, HSt.out⟩, by simp [intOf]⟩

          · have h1 : (((slotS s : Nat) : Int) != 1) = true := by rw [bne_iff_ne]; omega
            have HI0 := Lib.hid (HIX.out hsl)
            clear HIN HIX hsl
            go_wp2
            have HSt := Lib.hid (show St wb a b 2 w4 (.slice (some ⟨q, 0, none⟩) (1 : Nat) c) from St.two (by rw [HON.out HI0.out]; exact sat_mk HM4.out) HM4.out.2)
            exact ⟨⟨2, by omega, by go_num, HX4.out, HSt.out⟩, by simp [intOf]⟩

        · have e2 := de_isn hd
          rw [enc_tk, e2] at HC
          have HI0 := Lib.hid (inS_no (d := b) (i := 1) (fun h => hd h.1))
          clear e2 hd
          obtain ⟨s, hs⟩ : ∃ s, deV b = s := ⟨_, rfl⟩
          rw [hs] at HC
          clear hs
          have HCI := Lib.hid (infoSe s)
          have HCZ := Lib.hid (encS_sz s)
          have HCO := Lib.hid (all_oneCell_toArray (Ss.enc_one s))
          have c0 := (Hid.out hxr).c0
          have c1 := (Hid.out hxr).c1
          go_wp2_with fail
          clear c0 c1
          refine (HC.out _).mono ?_
          rintro e w1 ⟨rfl, hb⟩
          have HX1 := Lib.hid ((Hid.out hxr).below hb)
          have HM1 := Lib.hid (HMV.out.go hb)
          clear hb hxr HMV HC
          go_wp2_with (refine wpList_fresh rfl 44 (.tmp 8) (.tmp 22) rfl (Ss.enc s).toArray zS 44 rfl rfl HCI.out HCZ.out HCO.out ?_; intro w2 hb hrow hsz; have HX2 := Lib.hid (HX1.out.below hb); have HM2 := Lib.hid (HM1.out.go hb); have HQ2 := Lib.hid hrow; clear hb hrow hsz HX1 HM1)
          have HSt := Lib.hid (show St wb a b 2 w2 (.slice (some ⟨q, 0, none⟩) (1 : Nat) c) from St.two (by rw [HON.out HI0.out]; exact sat_mk HM2.out) HM2.out.2)
          exact ⟨⟨2, by omega, by go_num, HX2.out, HSt.out⟩, by simp [intOf]⟩
    | @two wr v hS hB =>
      have HS := Lib.hid hS
      have HB := Lib.hid hB
      obtain ⟨A, n, c, hv, h2, h3, h4⟩ := hS
      subst hv
      clear h2 h3 h4
      have d : decide (((2 : Nat) : Int) < 2) = false := rfl
      clear hB
      go_wp2
      go_ret
      exact ⟨.slice A n c, rfl, HS.out, HB.out⟩
end Go.Proofs.YtlchjohaacbkpaaGreatDoor.Rs
