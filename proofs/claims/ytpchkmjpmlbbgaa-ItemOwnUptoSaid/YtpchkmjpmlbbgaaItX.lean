/- Contracts of the document's CheckChanges, Get and Under. -/
import Derived.Test.YtpchkmjpmlbbgaaItW
import Derived.Test.YtpchkmjpmlbbgaaItI
namespace Go.Proofs.Ytpchkmjpmlbbgaa.It
set_option linter.unusedVariables false
open Go.ChangeShapes Go.WideShapes Go.ChangeAt Go.RowKit
open Ar Rg St
open BigFrame
set_option maxRecDepth 100000 in
set_option maxHeartbeats 1000000 in
theorem refChanges_any (D : List Ch) (A : Option Addr) (n cap B : Nat) (hn : n = D.length) (hm : n ≤ 281474976710656) (w : World) (hB : B ≤ w.heap.size) (hD : Ls Sc.enc 3 w B A D) :
    Calls Try.prog 33 #[.slice A n cap] w fun e w' => e = .returned (errF (rc D)) ∧ Below w.heap.size w w' := by
  have HN := Lib.hid hn
  have HD := Lib.hid hD
  clear hn hD
  go_enter Try.func33, Try.ntmps33
  go_wp2_with fail
  go_loopw [7] (fun v wr => ∃ i : Nat, i ≤ n ∧ v = .int .i64 i ∧ Hid (RcAt D i) ∧ Hid (Below w.heap.size w wr)) (fun v _ => n - (intOf v).toNat)
  case atStart => exact ⟨0, Nat.zero_le _, by go_num, RcAt.zero D, Below.refl _ _⟩
  case round =>
    obtain ⟨i, hi, rfl, hrt, hbel⟩ := hrel
    by_cases hlt : i < n
    · obtain ⟨x, hx⟩ : ∃ x, D[i]? = some x := ⟨_, List.getElem?_eq_getElem (by rw [← HN.out]; exact hlt)⟩
      obtain ⟨b, o, hAe, hb, hr⟩ := (HD.out.below ((Hid.out hbel).mono hB)) i x hx
      have hbs : b < wr.heap.size := Nat.lt_of_lt_of_le hb (Nat.le_trans hB (Hid.out hbel).size)
      have hc0 : wr.cell? ⟨b, o + i * 3, none⟩ = some (.string x.k) := hr 0 _ rfl
      have hc1 : wr.cell? ⟨b, o + i * 3 + 1, none⟩ = some (.bool x.h) := hr 1 _ rfl
      have hc2 : wr.cell? ⟨b, o + i * 3 + 2, none⟩ = some (.string x.v) := hr 2 _ rfl
      clear hr
      subst hAe
      have HBN := Lib.hid (show Below w.heap.size w (wr.alloc (.cells #[.string x.k, .bool x.h, .string x.v] 39)) from (Hid.out hbel).alloc (Hid.out hbel).size _)
      have hqc := refKey_any x.k
      have hmore := fun h => (Hid.out hrt).more hx h
      have hbad := fun h => (Hid.out hrt).bad hx h
      rw [show okC x = (okKey x.k && (decide (x.v.size ≤ 160) && (x.h || x.v.toList.isEmpty))) from rfl] at hmore hbad
      have HMORE := Lib.hid hmore
      have HBAD := Lib.hid hbad
      clear hmore hbad hrt hx
      obtain ⟨xk, xh, xv⟩ := x
      simp only at hc0 hc1 hc2 HBN hqc HMORE HBAD
      by_cases hq : okKey xk = true
      · rw [hq] at hqc HMORE HBAD
        have HQC := Lib.hid hqc
        clear hqc hq
        by_cases hv : xv.size ≤ 160
        · have hv1 : decide ((160 : Int) < (xv.size : Int)) = false := by rw [decide_eq_false_iff_not]; omega
          rw [decide_eq_true hv] at HMORE HBAD
          by_cases hh : xh = true
          · subst hh
            have HRT := Lib.hid (HMORE.out rfl)
            clear HMORE HBAD
            go_wp2_with (go_at_call 29; refine (HQC.out _).mono ?_; rintro e w1 ⟨rfl, rfl⟩)
            exact ⟨⟨i + 1, by omega, by go_num, HRT.out, HBN.out⟩, by simp [intOf] <;> omega⟩
          · have hh : xh = false := by simpa using hh
            subst hh
            by_cases hz : xv.toList.isEmpty = true
            · rw [hz] at HMORE HBAD
              have HRT := Lib.hid (HMORE.out rfl)
              clear HMORE HBAD
              go_wp2_with (go_at_call 29; refine (HQC.out _).mono ?_; rintro e w1 ⟨rfl, rfl⟩)
              exact ⟨⟨i + 1, by omega, by go_num, HRT.out, HBN.out⟩, by simp [intOf] <;> omega⟩
            · have hz : xv.toList.isEmpty = false := by simpa using hz
              rw [hz] at HMORE HBAD
              have HF := Lib.hid (HBAD.out rfl)
              clear HMORE HBAD
              go_wp2_with (go_at_call 29; refine (HQC.out _).mono ?_; rintro e w1 ⟨rfl, rfl⟩)
              go_ret
              exact ⟨by rw [HF.out]; rfl, HBN.out⟩
        · have hv1 : decide ((160 : Int) < (xv.size : Int)) = true := by rw [decide_eq_true_iff]; omega
          rw [decide_eq_false hv] at HMORE HBAD
          have HF := Lib.hid (HBAD.out rfl)
          clear HMORE HBAD
          go_wp2_with (go_at_call 29; refine (HQC.out _).mono ?_; rintro e w1 ⟨rfl, rfl⟩)
          go_ret
          exact ⟨by rw [HF.out]; rfl, HBN.out⟩
      · have hq : okKey xk = false := by simpa using hq
        rw [hq] at hqc HMORE HBAD
        have HQC := Lib.hid hqc
        clear hqc hq
        have HF := Lib.hid (HBAD.out rfl)
        clear HMORE HBAD
        go_wp2_with (go_at_call 29; refine (HQC.out _).mono ?_; rintro e w1 ⟨rfl, rfl⟩)
        go_ret
        exact ⟨by rw [HF.out]; rfl, HBN.out⟩
    · have HF := Lib.hid ((Hid.out hrt).last (by rw [← HN.out]; omega))
      go_wp2
      go_ret
      exact ⟨by rw [HF.out]; rfl, Hid.out hbel⟩
set_option maxRecDepth 100000 in
set_option maxHeartbeats 1000000 in
theorem refGet_any (D : List Itm) (k : ByteArray) (A : Option Addr) (n cap B : Nat) (hn : n = D.length) (hm : n ≤ 281474976710656) (w : World) (hB : B ≤ w.heap.size) (hD : Ls enc 2 w B A D) :
    Calls Try.prog 13 #[.slice A n cap, .string k] w fun e w' => e = .returned (getV (rt D) (get D k)) ∧ Below w.heap.size w w' := by
  have HR := Lib.hid (refCheck_any D A n cap B hn hm w hB hD)
  have HN := Lib.hid hn
  have HD := Lib.hid hD
  clear hn hD
  have hq : rt D = false ∨ rt D = true := by cases rt D <;> simp
  rcases hq with hr | hr
  · rw [hr] at HR ⊢
    have hc : errF false = .int .i64 4 := rfl
    rw [hc] at HR
    clear hr hc
    go_enter Try.func13, Try.ntmps13
    go_wp2_with (go_at_call 19; refine HR.out.mono ?_; rintro e w1 ⟨rfl, hb1⟩; have HB1 := Lib.hid hb1; clear hb1)
    go_ret2
    exact ⟨rfl, HB1.out⟩
  · rw [hr] at HR ⊢
    have hc : errF true = .int .i64 0 := rfl
    rw [hc] at HR
    clear hr hc
    go_enter Try.func13, Try.ntmps13
    go_wp2_with fail
    go_at_call 19
    refine HR.out.mono ?_
    rintro e w1 ⟨rfl, hb1⟩
    have HB1 := Lib.hid hb1
    clear hb1
    go_wp2_with fail
    go_at_call 27
    refine (find_any D k A n cap B HN.out hm w1 (Nat.le_trans hB HB1.out.size) (HD.out.below (HB1.out.mono hB))).mono ?_
    rintro e w2 ⟨v, hv, rfl, hb2⟩
    have HB2 := Lib.hid (HB1.out.trans (hb2.mono HB1.out.size))
    clear hb2
    rcases hv with ⟨rfl, hg⟩ | ⟨p, y, rfl, hy, hg⟩
    · have HG := Lib.hid hg
      clear hg
      go_wp2
      go_ret2
      exact ⟨by rw [HG.out]; rfl, HB2.out⟩
    · have HG := Lib.hid hg
      have hpn : p < n := by rw [HN.out]; exact (List.getElem?_eq_some_iff.1 hy).1
      obtain ⟨b, o, hAe, hb, hrr⟩ := (HD.out.below (HB2.out.mono hB)) p y hy
      have hc1 : w2.cell? ⟨b, o + p * 2 + 1, none⟩ = some (.string y.v) := hrr 1 _ rfl
      have h0 : decide ((p : Int) < 0) = false := by rw [decide_eq_false_iff_not]; omega
      clear hrr hy hg
      subst hAe
      go_wp2
      go_ret2
      exact ⟨by rw [HG.out]; rfl, HB2.out⟩
theorem ls_new_at {α : Type} {en : α → List Value} {k : Nat} (w : World) (x : α) (e : TypeId) {N : Nat} (hN : w.heap.size = N) : Ls en k (w.alloc (.cells (en x).toArray e)) (N + 1) (some ⟨N, 0, none⟩) [x] := by
  subst hN
  exact Ls.new w x e _ (Nat.lt_succ_self _)
theorem und_drop {D : List Itm} {p : ByteArray} {i : Nat} {x : Itm} (hx : D[i]? = some x) : und (D.take (i + 1)) p = und (D.take i) p ++ (if pfx p x.k then [x] else []) := by
  unfold und
  rw [List.take_add_one, hx, List.filter_append]
  have e : pre p x = pfx p x.k := rfl
  cases h : pfx p x.k <;> simp [e, h]
theorem pfx_both (p k : ByteArray) : (p.size ≤ k.size → ((k.extract 0 p.size).toList == p.toList) = pfx p k) ∧ (k.size < p.size → pfx p k = false) := by
  have hl : k.data.toList.length = k.size := by simp
  have hl2 : p.data.toList.length = p.size := by simp
  constructor
  · intro h
    rw [pfx, pre_take, hl, hl2, decide_eq_true h, Bool.true_and, str_eq]
    refine decide_eq_decide.2 ?_
    rw [ByteArray.data_extract]
    simp
  · intro h
    rw [pfx, pre_take, hl, hl2, decide_eq_false (by omega), Bool.false_and]
theorem und_len (D : List Itm) (p : ByteArray) : (und D p).length ≤ D.length := List.length_filter_le _ _
set_option maxRecDepth 100000 in
set_option maxHeartbeats 2000000 in
theorem refUnder_any (D : List Itm) (p : ByteArray) (hps : p.size ≤ 9223372036854775807) (A : Option Addr) (n c B : Nat) (hn : n = D.length) (hlen : n ≤ 4398046511103) (w : World) (hB : B ≤ w.heap.size) (hD : Ls enc 2 w B A D) :
    Calls Try.prog 15 #[.slice A n c, .string p] w fun e w' => ∃ v, e = .returned (.tuple #[v, .int .i64 (er (rt D))]) ∧ MkI w w' v (if rt D then und D p else []) := by
  have HR := Lib.hid (refCheck_any D A n c B hn (by omega) w hB hD)
  have HN := Lib.hid hn
  have HD := Lib.hid hD
  clear hn hD
  have hq : rt D = false ∨ rt D = true := by cases rt D <;> simp
  rcases hq with hr | hr
  · rw [hr] at HR ⊢
    have hc : errF false = .int .i64 4 := rfl
    rw [hc] at HR
    clear hr hc
    go_enter Try.func15, Try.ntmps15
    go_wp2_with (go_at_call 19; refine HR.out.mono ?_; rintro e w1 ⟨rfl, hb1⟩; have HB1 := Lib.hid hb1; clear hb1)
    go_ret2
    exact ⟨_, rfl, Mk.nil HB1.out⟩
  · have HQ := Lib.hid hr
    rw [hr] at HR ⊢
    have hc : errF true = .int .i64 0 := rfl
    rw [hc] at HR
    clear hr hc
    go_enter Try.func15, Try.ntmps15
    go_wp2_with fail
    go_at_call 19
    refine HR.out.mono ?_
    rintro e w1 ⟨rfl, hb1⟩
    have HB1 := Lib.hid hb1
    clear hb1 HR
    go_wp2_with fail
    go_loopw [6, 14] (fun ov v wr => ∃ i : Nat, i ≤ n ∧ v = .int .i64 i ∧ Hid (MkI w wr ov (und (D.take i) p))) (fun _ v _ => n - (intOf v).toNat)
    case atStart => exact ⟨0, Nat.zero_le _, by go_num, Mk.nil HB1.out⟩
    case round =>
      obtain ⟨i, hi, rfl, hm⟩ := hrel
      by_cases hlt : i < n
      · obtain ⟨x, hx⟩ : ∃ x, D[i]? = some x := ⟨_, List.getElem?_eq_getElem (by rw [← HN.out]; exact hlt)⟩
        obtain ⟨b, o, hAe, hb, hr⟩ := (HD.out.below ((Hid.out hm).2.mono hB)) i x hx
        have hc0 : wr.cell? ⟨b, o + i * 2, none⟩ = some (.string x.k) := hr 0 _ rfl
        have hc1 : wr.cell? ⟨b, o + i * 2 + 1, none⟩ = some (.string x.v) := hr 1 _ rfl
        clear hr
        subst hAe
        have hut := und_drop (p := p) hx
        have hkx := okI_sizes HQ.out hx
        have hpc := pfx_both p x.k
        have hol := und_len (D.take i) p
        rw [List.length_take] at hol
        have HM := Lib.hid (show MkI w (wr.alloc (.cells #[.string x.k, .string x.v] 43)) _ (und (D.take i) p) from (Hid.out hm).alloc _)
        have hks : (x.k.size : Int) ≤ 48 := by omega
        by_cases hpf : pfx p x.k = true
        · have hle : p.size ≤ x.k.size := by
            rcases Nat.lt_or_ge x.k.size p.size with h | h
            · rw [hpc.2 h] at hpf; cases hpf
            · exact h
          have q1 : decide ((p.size : Int) ≤ (x.k.size : Int)) = true := by rw [decide_eq_true_iff]; omega
          have q2 : ((x.k.extract 0 p.size).toList == p.toList) = true := by rw [hpc.1 hle, hpf]
          have hle2 : (p.size : Int) ≤ (x.k.size : Int) := by omega
          rw [hpf, if_pos rfl] at hut
          have HU := Lib.hid hut
          clear hx hut hkx hpc hpf hm
          go_wp2_with (at_builtin; refine catI (HM.out.alloc _) [x] (some ⟨wr.heap.size + 1, 0, none⟩) 1 1 rfl (ls_new_at _ x _ (by simp)) (by omega) rfl _ _ rfl rfl rfl ?_; intro v3 w3 hM3 hG3; have HM3 := Lib.hid hM3; clear hM3 hG3)
          exact ⟨⟨i + 1, by omega, by go_num, by rw [HU.out]; exact HM3.out⟩, by simp [intOf] <;> omega⟩
        · have hpf : pfx p x.k = false := by simpa using hpf
          rw [hpf, if_neg (by simp), List.append_nil] at hut
          have HU := Lib.hid hut
          by_cases hle : p.size ≤ x.k.size
          · have q1 : decide ((p.size : Int) ≤ (x.k.size : Int)) = true := by rw [decide_eq_true_iff]; omega
            have q2 : ((x.k.extract 0 p.size).toList == p.toList) = false := by rw [hpc.1 hle, hpf]
            have hle2 : (p.size : Int) ≤ (x.k.size : Int) := by omega
            clear hx hut hkx hpc hpf hm
            go_wp2
            exact ⟨⟨i + 1, by omega, by go_num, by rw [HU.out]; exact HM.out⟩, by simp [intOf] <;> omega⟩
          · have q1 : decide ((p.size : Int) ≤ (x.k.size : Int)) = false := by rw [decide_eq_false_iff_not]; omega
            clear hx hut hkx hpc hpf hm
            go_wp2
            exact ⟨⟨i + 1, by omega, by go_num, by rw [HU.out]; exact HM.out⟩, by simp [intOf] <;> omega⟩
      · have HU := Lib.hid (show MkI w wr _ (und D p) from by
          have := Hid.out hm
          rwa [List.take_of_length_le (by rw [← HN.out]; omega)] at this)
        clear hm
        go_wp2
        go_ret2
        exact ⟨_, rfl, HU.out⟩
end Go.Proofs.Ytpchkmjpmlbbgaa.It
