/- The walk of NodeOwn. -/
import Derived.Test.YtmibgdlmhjkpfaaDoorNeB
import Derived.Test.YtmibgdlmhjkpfaaDoorNdX
namespace Go.Proofs.YtmibgdlmhjkpfaaDoor.Nd
set_option linter.unusedVariables false
set_option linter.unusedSimpArgs false
open Go.ChangeShapes Go.WideShapes Go.ChangeAt Go.RowKit
open Ar Rg
open BigFrame
open Pk (be num be_length u8s u8s_length)
open It (str_le below_drewN)
/-- cells of a list of the call's own, one in each element from i on -/
def CW (B : Nat) (e : TypeId) (k o : Nat) (A : Option Addr) (n : Nat) (p : Value → Prop) (i : Nat) (wr : World) : Prop :=
  ∀ j, i ≤ j → j < n → ∃ g cur v, A = some ⟨g, 0, none⟩ ∧ B ≤ g ∧ wr.heap[g]? = some (.cells cur e (0, 0)) ∧ cur[j * k + o]? = some v ∧ p v
section
variable {B k o n i g : Nat} {e : TypeId} {A : Option Addr} {p : Value → Prop} {wr w' : World}
theorem CW.below (h : CW B e k o A n p i wr) (hb : Below wr.heap.size wr w') : CW B e k o A n p i w' := fun j h1 h2 => by
  obtain ⟨g, cur, v, hA, hB, hr, hc, hp⟩ := h j h1 h2
  exact ⟨g, cur, v, hA, hB, (hb.block g (row_lt hr)).trans hr, hc, hp⟩
theorem CW.mono {B' : Nat} (h : CW B e k o A n p i wr) (hB : B' ≤ B) : CW B' e k o A n p i wr := fun j h1 h2 => by
  obtain ⟨g, cur, v, hA, hB', hr, hc, hp⟩ := h j h1 h2
  exact ⟨g, cur, v, hA, Nat.le_trans hB hB', hr, hc, hp⟩
theorem CW.other {old : Array Value} {t : TypeId} {f : Nat × Nat} (h : CW B e k o A n p i wr) (hg : wr.heap[g]? = some (.cells old t f)) (ht : t ≠ e) (off : Nat) (u : Value) : CW B e k o A n p i (wr.setCell ⟨g, off, none⟩ u) := fun j h1 h2 => by
  obtain ⟨g2, cur, v, hA, hB, hr, hc, hp⟩ := h j h1 h2
  refine ⟨g2, cur, v, hA, hB, ?_, hc, hp⟩
  rw [heap_setCell_other wr ⟨g, off, none⟩ g2 u (fun q => by
    have q : g2 = g := q
    rw [q] at hr; rw [hr] at hg; cases hg; exact ht rfl)]
  exact hr
theorem CW.step (h : CW B e k o A n p i wr) (hk : 0 < k) (hA : A = some ⟨g, 0, none⟩) (u : Value) : CW B e k o A n p (i + 1) (wr.setCell ⟨g, i * k + o, none⟩ u) := fun j h1 h2 => by
  obtain ⟨g2, cur, v, hA2, hB, hr, hc, hp⟩ := h j (by omega) h2
  have hg : g2 = g := by rw [hA] at hA2; cases hA2; rfl
  subst hg
  refine ⟨g2, cur.setIfInBounds (i * k + o) u, v, hA2, hB, by simp [World.setCell, hr, Array.getElem?_modify], ?_, hp⟩
  have hne : i * k + o ≠ j * k + o := by
    intro q
    have : i * k = j * k := by omega
    have := Nat.eq_of_mul_eq_mul_right hk this
    omega
  rw [Array.getElem?_setIfInBounds_ne hne]
  exact hc
theorem CW.of_mk {α : Type} {enc : α → List Value} {w : World} {c : Nat} {D : List α} (h : Mk enc k e w wr (.slice A n c) D) (hk : ∀ x, (enc x).length = k) (hp : ∀ x, ∃ v, (enc x)[o]? = some v ∧ p v) : CW w.heap.size e k o A n p 0 wr := fun j _ hj => by
  rcases h.1.2 with ⟨hv, _⟩ | ⟨g, cap, cur, hv, hb, hg, hn, hc, hcs, ht⟩
  · cases hv; omega
  · cases hv
    obtain ⟨x, hx⟩ : ∃ x, D[j]? = some x := ⟨_, List.getElem?_eq_getElem hj⟩
    obtain ⟨v, hv, hpv⟩ := hp x
    have hf := flat_get hk hx hv
    rw [← ht, List.getElem?_take] at hf
    split at hf
    · exact ⟨g, cur, v, rfl, hb, hg, by simpa using hf, hpv⟩
    · cases hf
end
abbrev isU (v : Value) : Prop := ∃ x : Int, v = .int .u32 x
set_option maxRecDepth 100000 in
set_option maxHeartbeats 4000000 in
theorem nodeOwn_at (n : Nd) (hw : Wd n) (h1 : n.I.length * 32 ≤ 140737488351232) (h2 : n.K.length * 56 ≤ 140737488351232) (h3 : n.V.length * 88 ≤ 140737488351232) (cs : Array Value) (S : ByteArray) (C oe : Int) (na : Nd)
    (hc0 : ∀ w', NdAt w' cs n → Calls Tryd.prog 9 #[.agg cs] w' fun e w2 => e = .returned (.tuple #[.string S, .int .i64 C]) ∧ Below w'.heap.size w' w2)
    (hd : ∀ w', Calls Tryd.prog 10 #[.string S] w' fun e w2 => ∃ fs, e = .returned (.tuple #[.agg fs, .int .i64 oe]) ∧ NdOwn w' w2 fs na ∧ NdAt w2 fs na)
    (hoe : (oe = 0 ∧ n = na) ∨ oe = 9) (hsm : na.I.length ≤ 255 ∧ na.K.length ≤ 255) (w : World) (hn : NdAt w cs n) :
    Calls Tryd.prog 7 #[.agg cs] w fun e w' => e = .returned (.bool true) ∧ Below w.heap.size w w' := by
  obtain ⟨hv0, hb0⟩ := boxed hn
  have HV1 := Lib.hid hv0
  have HB1 := Lib.hid hb0
  have HLV := Lib.hid (fun w => lives_true w)
  have HC0 := Lib.hid hc0
  have HD := Lib.hid hd
  have HOE := Lib.hid hoe
  have HSM := Lib.hid hsm
  have hbd : n.I.length ≤ 281474976710656 ∧ n.K.length ≤ 281474976710656 ∧ n.V.length ≤ 281474976710656 := by omega
  have HBD := Lib.hid hbd
  have HKL := Lib.hid (show (kdN n).length ≤ 2513169434915 by unfold kdN; rw [List.length_map]; exact nmN_len n (by omega) (by omega))
  have HCP := Lib.hid (fun w' (h : NdAt w' cs n) => copy_any n h1 h2 h3 cs w' h)
  have HKD := Lib.hid (fun w' (h : NdAt w' cs n) => kids_any n hw (by omega) (by omega) cs w' h)
  have HSS := Lib.hid (fun w' ds (h : NdAt w' cs n) (k : NdAt w' ds n) => same_any n n hw hw cs ds w' h k)
  rw [(eqN_iff n n).2 rfl] at HSS
  clear hv0 hb0 hn hc0 hd hoe hsm h1 h2 h3 hbd
  go_enter Tryd.func7, Tryd.ntmps7
  go_wp2_with (first
    | (go_at_call 8; refine (HLV.out _).mono ?_; rintro e w2 ⟨rfl, hb2⟩; have HV2 := Lib.hid (HV1.out.below hb2); have HB2 := Lib.hid (HB1.out.trans (hb2.mono HB1.out.size)); clear hb2)
    | (refine wpList_load_row rfl 27 (.tmp 1) rfl w.heap.size rfl 27 cs (0, 0) _ HV2.out.1 Tryd.underlying27 rfl HV2.out.info ?_)
    | (go_at_call 14; refine (HCP.out _ HV2.out.2).mono ?_; rintro e w3 ⟨ds, rfl, ho3⟩; have HV3 := Lib.hid (HV2.out.below ho3.bel); have HB3 := Lib.hid (HB2.out.trans (ho3.bel.mono HB2.out.size)); have HA3 := Lib.hid (ho3.at_ HBD.out.1 HBD.out.2.1 HBD.out.2.2); clear ho3 HV2)
    | (refine wpList_fresh rfl 27 (.tmp 3) (.tmp 17) rfl ds _ _ rfl rfl (info4 HA3.out.size) HA3.out.size.symm HA3.out.one ?_; intro w4 hb hr hz; have HK4 := Lib.hid (show NVar w4 w3.heap.size ds n from ⟨hr, HA3.out.below hb⟩); have HV4 := Lib.hid (HV3.out.below hb); have HB4 := Lib.hid (HB3.out.trans (hb.mono HB3.out.size)); clear hb hr hz HV3)
    | (refine wpList_load_row rfl 27 (.tmp 1) rfl w.heap.size rfl 27 cs (0, 0) _ HV4.out.1 Tryd.underlying27 rfl HV4.out.info ?_)
    | (go_at_call 9; refine (HC0.out _ HV4.out.2).mono ?_; rintro e w5 ⟨rfl, hb5⟩; have HV5 := Lib.hid (HV4.out.below hb5); have HK5 := Lib.hid (HK4.out.below hb5); have HB5 := Lib.hid (HB4.out.trans (hb5.mono HB4.out.size)); clear hb5 HV4))
  go_at_call 10
  refine (HD.out _).mono ?_
  rintro e w6 ⟨fs, rfl, ho, ha⟩
  obtain ⟨vI, vK, vV, rfl, mI, mK, mV⟩ := ho
  obtain ⟨A1, n1, c1, rfl, hn1⟩ : ∃ A n c, vI = .slice A n c ∧ n = na.I.length := by obtain ⟨A, c, h, _⟩ := mI.ls It.enc_len; exact ⟨A, _, c, h, rfl⟩
  obtain ⟨A2, n2, c2, rfl, hn2⟩ : ∃ A n c, vK = .slice A n c ∧ n = na.K.length := by obtain ⟨A, c, h, _⟩ := mK.ls ecK_len; exact ⟨A, _, c, h, rfl⟩
  obtain ⟨A3, n3, c3, rfl, hn3⟩ : ∃ A n c, vV = .slice A n c ∧ n = na.V.length := by obtain ⟨A, c, h, _⟩ := mV.ls ecV_len; exact ⟨A, _, c, h, rfl⟩
  have hn1s : n1 ≤ 255 := by rw [hn1]; exact HSM.out.1
  have hn2s : n2 ≤ 255 := by rw [hn2]; exact HSM.out.2
  have HI6 := Lib.hid (show CW w5.heap.size 43 2 1 A1 n1 (fun _ => True) 0 w6 from CW.of_mk (D := na.I) mI It.enc_len (fun x => ⟨_, rfl, trivial⟩))
  have HK6 := Lib.hid (show CW w5.heap.size 47 34 1 A2 n2 isU 0 w6 from CW.of_mk (D := na.K) mK ecK_len (fun x => ⟨_, rfl, ⟨_, rfl⟩⟩))
  have HB6 := Lib.hid mI.2
  clear mI mK mV ha hn1 hn2 hn3
  generalize (na.kd : Int) = kz at *
  go_wp2_with (refine wpList_fresh rfl 27 (.tmp 6) (.tmp 26) rfl #[.int .u8 kz, .slice A1 n1 c1, .slice A2 n2 c2, .slice A3 n3 c3] _ _ rfl rfl (info4 rfl) rfl (four_cells _ _ _ _ rfl rfl rfl rfl) ?_; intro w7 hb hr hz; have HI7 := Lib.hid (HI6.out.below hb); have HK7 := Lib.hid (HK6.out.below hb); have HB7 := Lib.hid (HB6.out.trans (hb.mono HB6.out.size)); have HQ7 := Lib.hid hr; have HQB := Lib.hid (show w5.heap.size ≤ w6.heap.size from HB6.out.size); have a1 : w7.cell? ⟨w6.heap.size, 1, none⟩ = some (.slice A1 n1 c1) := cell_of_row _ _ 1 _ _ _ hr; clear hb hr hz HI6 HK6; generalize w6.heap.size = q at *)
  go_loopw [31] (fun v wr => ∃ i : Nat, i ≤ n1 ∧ v = .int .i64 i ∧ Hid (CW w5.heap.size 43 2 1 A1 n1 (fun _ => True) i wr) ∧ Hid (CW w5.heap.size 47 34 1 A2 n2 isU 0 wr) ∧ Hid (wr.heap[q]? = some (.cells #[.int .u8 kz, .slice A1 n1 c1, .slice A2 n2 c2, .slice A3 n3 c3] 27 (0, 0))) ∧ Hid (Below w5.heap.size w5 wr)) (fun v _ => n1 - (intOf v).toNat)
  case atStart => exact ⟨0, Nat.zero_le _, by go_num, HI7.out, HK7.out, HQ7.out, HB7.out⟩
  case round =>
    obtain ⟨i, hi, rfl, hci, hck, hrow, hbel⟩ := hrel
    by_cases hlt : i < n1
    · obtain ⟨g, cur, v, hA, hg, hr, hc, _⟩ := (Hid.out hci) i (Nat.le_refl _) hlt
      have HST := Lib.hid (fun u => (Hid.out hci).step (by decide) hA u)
      have HOT := Lib.hid (fun u => (Hid.out hck).other hr (by decide) (i * 2 + 1) u)
      have HRO := Lib.hid (fun u => (heap_setCell_other wr ⟨g, i * 2 + 1, none⟩ q u (fun z => by
        have z : q = g := z
        have h2 := Hid.out hrow
        rw [z, hr] at h2; cases h2)).trans (Hid.out hrow))
      have HBE := Lib.hid (fun u => (Hid.out hbel).setCell (p := ⟨g, i * 2 + 1, none⟩) hg u)
      have k1 : wr.cell? ⟨q, 1, none⟩ = some (.slice A1 n1 c1) := cell_of_row _ _ 1 _ _ _ (Hid.out hrow)
      have k2 : wr.cell? ⟨g, i * 2 + 1, none⟩ = some v := (cell_of_row _ _ _ _ _ _ hr).trans hc
      have k3 : wr.frozen? ⟨g, i * 2 + 1, none⟩ = false := frozen_of_row _ _ _ _ _ hr
      clear hci hck hrow hbel hr hc
      subst hA
      go_wp2_with fail
      exact ⟨⟨i + 1, by omega, by go_num, HST.out _, HOT.out _, HRO.out _, HBE.out _⟩, by simp [intOf] <;> omega⟩
    · have a2 : wr.cell? ⟨q, 2, none⟩ = some (.slice A2 n2 c2) := cell_of_row _ _ 2 _ _ _ (Hid.out hrow)
      have HK8 := Lib.hid (Hid.out hck)
      have HQ8 := Lib.hid (Hid.out hrow)
      have HB8 := Lib.hid (Hid.out hbel)
      clear hci hck hrow hbel a1
      go_wp2_with fail
      clear hlt hi
      go_loopw [43] (fun v wr => ∃ i : Nat, i ≤ n2 ∧ v = .int .i64 i ∧ Hid (CW w5.heap.size 47 34 1 A2 n2 isU i wr) ∧ Hid (wr.heap[q]? = some (.cells #[.int .u8 kz, .slice A1 n1 c1, .slice A2 n2 c2, .slice A3 n3 c3] 27 (0, 0))) ∧ Hid (Below w5.heap.size w5 wr)) (fun v _ => n2 - (intOf v).toNat)
      case atStart => exact ⟨0, Nat.zero_le _, by go_num, HK8.out, HQ8.out, HB8.out⟩
      case round =>
        obtain ⟨i, hi, rfl, hck, hrow, hbel⟩ := hrel
        by_cases hlt : i < n2
        · obtain ⟨g, cur, v, hA, hg, hr, hc, ⟨x, hx⟩⟩ := (Hid.out hck) i (Nat.le_refl _) hlt
          have HST := Lib.hid (fun u => (Hid.out hck).step (by decide) hA u)
          have HRO := Lib.hid (fun u => (heap_setCell_other wr ⟨g, i * 34 + 1, none⟩ q u (fun z => by
            have z : q = g := z
            have h2 := Hid.out hrow
            rw [z, hr] at h2; cases h2)).trans (Hid.out hrow))
          have HBE := Lib.hid (fun u => (Hid.out hbel).setCell (p := ⟨g, i * 34 + 1, none⟩) hg u)
          have k1 : wr.cell? ⟨q, 2, none⟩ = some (.slice A2 n2 c2) := cell_of_row _ _ 2 _ _ _ (Hid.out hrow)
          have k2 : wr.cell? ⟨g, i * 34 + 1, none⟩ = some (.int .u32 x) := by rw [← hx]; exact (cell_of_row _ _ _ _ _ _ hr).trans hc
          have k3 : wr.frozen? ⟨g, i * 34 + 1, none⟩ = false := frozen_of_row _ _ _ _ _ hr
          clear hck hrow hbel hr hc hx
          subst hA
          go_wp2_with fail
          exact ⟨⟨i + 1, by omega, by go_num, HST.out _, HRO.out _, HBE.out _⟩, by simp [intOf] <;> omega⟩
        · have HB9 := Lib.hid (Hid.out hbel)
          have HV9 := Lib.hid (HV5.out.below HB9.out)
          clear hck hrow hbel a2
          go_wp2_with (refine wpList_load_row rfl 27 (.tmp 1) rfl w.heap.size rfl 27 cs (0, 0) _ HV9.out.1 Tryd.underlying27 rfl HV9.out.info ?_)
          go_at_call 15
          refine (HKD.out _ HV9.out.2).mono ?_
          rintro e wk ⟨vk, rfl, hmk⟩
          obtain ⟨A4, n4, c4, rfl, hn4⟩ : ∃ A m c, vk = .slice A m c ∧ m = (kdN n).length := by obtain ⟨A, c, h, _⟩ := hmk.ls (show ∀ x, (enU x).length = 1 from fun _ => rfl); exact ⟨A, _, c, h, rfl⟩
          have hn4s : n4 ≤ 2513169434915 := by rw [hn4]; exact HKL.out
          have HU9 := Lib.hid (show CW w5.heap.size 44 1 0 A4 n4 isU 0 wk from CW.mono (B := wr.heap.size) (show CW wr.heap.size 44 1 0 A4 n4 isU 0 wk from CW.of_mk (D := kdN n) hmk (show ∀ x, (enU x).length = 1 from fun _ => rfl) (fun x => ⟨_, rfl, ⟨_, rfl⟩⟩)) HB9.out.size)
          have HBk := Lib.hid (HB9.out.trans (hmk.2.mono HB9.out.size))
          clear hmk hn4
          go_wp2_with fail
          clear hlt hi
          go_loopw [60] (fun v wr => ∃ i : Nat, i ≤ n4 ∧ v = .int .i64 i ∧ Hid (CW w5.heap.size 44 1 0 A4 n4 isU i wr) ∧ Hid (Below w5.heap.size w5 wr)) (fun v _ => n4 - (intOf v).toNat)
          case atStart => exact ⟨0, Nat.zero_le _, by go_num, HU9.out, HBk.out⟩
          case round =>
            obtain ⟨i, hi, rfl, hck, hbel⟩ := hrel
            by_cases hlt : i < n4
            · obtain ⟨g, cur, v, hA, hg, hr, hc, ⟨x, hx⟩⟩ := (Hid.out hck) i (Nat.le_refl _) hlt
              have HST := Lib.hid (fun u => (Hid.out hck).step (by decide) hA u)
              have HBE := Lib.hid (fun u => (Hid.out hbel).setCell (p := ⟨g, i * 1 + 0, none⟩) hg u)
              have k2 : wr.cell? ⟨g, i, none⟩ = some (.int .u32 x) := by rw [← hx]; have := (cell_of_row _ _ _ _ _ _ hr).trans hc; simpa using this
              have k3 : wr.frozen? ⟨g, i, none⟩ = false := frozen_of_row _ _ _ _ _ hr
              simp only [Nat.mul_one, Nat.add_zero] at HST HBE
              clear hck hbel hr hc hx
              subst hA
              go_wp2_with fail
              exact ⟨⟨i + 1, by omega, by go_num, HST.out _, HBE.out _⟩, by simp [intOf] <;> omega⟩
            · have HBa := Lib.hid (Hid.out hbel)
              have HVa := Lib.hid (HV5.out.below HBa.out)
              have HKa := Lib.hid (HK5.out.below HBa.out)
              clear hck hbel
              go_wp2_with fail
              clear hlt hi
              go_at_call 10
              refine (HD.out _).mono ?_
              rintro e wb ⟨gs, rfl, ho, ha⟩
              have HBb := Lib.hid (HBa.out.trans (ho.bel.mono HBa.out.size))
              have HAb := Lib.hid ha
              have HVb := Lib.hid (HVa.out.below ho.bel)
              have HKb := Lib.hid (HKa.out.below ho.bel)
              clear ho ha
              rcases HOE.out with ⟨h0, h9⟩ | h9
              · subst h0 h9
                go_wp2_with (first
                  | (refine wpList_fresh rfl 27 (.tmp 12) (.tmp 73) rfl gs _ _ rfl rfl (info4 HAb.out.size) HAb.out.size.symm HAb.out.one ?_; intro wc hb hr hz; have HMc := Lib.hid (show NVar wc wb.heap.size gs _ from ⟨hr, HAb.out.below hb⟩); have HVc := Lib.hid (HVb.out.below hb); have HKc := Lib.hid (HKb.out.below hb); have HBc := Lib.hid (HBb.out.trans (hb.mono HBb.out.size)); have hvn := HVc.out.2; have hkn := HKc.out.2; clear hb hr hz)
                  | (refine wpList_load_row rfl 27 (.tmp 1) rfl w.heap.size rfl 27 cs (0, 0) _ HVc.out.1 Tryd.underlying27 rfl HVc.out.info ?_)
                  | (refine wpList_load_row rfl 27 (.tmp 3) rfl w3.heap.size rfl 27 ds (0, 0) _ HKc.out.1 Tryd.underlying27 rfl HKc.out.info ?_)
                  | (go_at_call 11; (with_reducible refine (HSS.out _ _ hvn hkn).mono ?_); rintro e wd ⟨rfl, hb⟩; have HBd := Lib.hid (HBc.out.trans (hb.mono HBc.out.size)); have HMd := Lib.hid (HMc.out.below hb); have HKd := Lib.hid (HKc.out.below hb); have hmn := HMd.out.2; have hkm := HKd.out.2; clear hb HVc hvn hkn)
                  | (refine wpList_load_row_g 27 (.tmp 12) rfl (by kernel_rfl) wb.heap.size rfl 27 gs (0, 0) _ HMd.out.1 Tryd.underlying27 rfl HMd.out.info ?_)
                  | (refine wpList_load_row_g 27 (.tmp 3) rfl (by kernel_rfl) w3.heap.size rfl 27 ds (0, 0) _ HKd.out.1 Tryd.underlying27 rfl HKd.out.info ?_)
                  | (go_at_call 11; (with_reducible refine (same_any n n hw hw gs ds _ hmn hkm).mono ?_); rw [(eqN_iff n n).2 rfl]; rintro e we ⟨rfl, hb⟩; have HBe := Lib.hid (HBd.out.trans (hb.mono HBd.out.size)); clear hb))
                go_ret
                exact ⟨rfl, HB5.out.trans (HBe.out.mono HB5.out.size)⟩
              · subst h9
                go_wp2_with (first
                  | (refine wpList_fresh rfl 27 (.tmp 12) (.tmp 73) rfl gs _ _ rfl rfl (info4 HAb.out.size) HAb.out.size.symm HAb.out.one ?_; intro wc hb hr hz; have HMc := Lib.hid (show NVar wc wb.heap.size gs _ from ⟨hr, HAb.out.below hb⟩); have HVc := Lib.hid (HVb.out.below hb); have HKc := Lib.hid (HKb.out.below hb); have HBc := Lib.hid (HBb.out.trans (hb.mono HBb.out.size)); have hvn := HVc.out.2; have hkn := HKc.out.2; clear hb hr hz)
                  | (refine wpList_load_row rfl 27 (.tmp 1) rfl w.heap.size rfl 27 cs (0, 0) _ HVc.out.1 Tryd.underlying27 rfl HVc.out.info ?_)
                  | (refine wpList_load_row rfl 27 (.tmp 3) rfl w3.heap.size rfl 27 ds (0, 0) _ HKc.out.1 Tryd.underlying27 rfl HKc.out.info ?_)
                  | (go_at_call 11; (with_reducible refine (HSS.out _ _ hvn hkn).mono ?_); rintro e wd ⟨rfl, hb⟩; have HBd := Lib.hid (HBc.out.trans (hb.mono HBc.out.size)); have HMd := Lib.hid (HMc.out.below hb); have HKd := Lib.hid (HKc.out.below hb); have hmn := HMd.out.2; have hkm := HKd.out.2; clear hb HVc hvn hkn))
                go_ret
                exact ⟨rfl, HB5.out.trans (HBd.out.mono HB5.out.size)⟩
set_option maxRecDepth 100000 in
theorem dec_nil : (decN []).isNone = true := by decide +kernel
theorem nodeOwn_walk (n : Nd) (hw : Wd n) (h1 : n.I.length * 32 ≤ 140737488351232) (h2 : n.K.length * 56 ≤ 140737488351232) (h3 : n.V.length * 88 ≤ 140737488351232) (cs : Array Value) (w : World) (hn : NdAt w cs n) :
    Calls Tryd.prog 7 #[.agg cs] w fun e w' => e = .returned (.bool true) ∧ Below w.heap.size w w' := by
  by_cases hc : ckN n = 0
  · have hf := (rt_fm hw (ck_zero.1 hc).1).few
    have hl := (enc_len hw hc).1
    exact nodeOwn_at n hw h1 h2 h3 cs (bs (encN n)) 0 0 n (fun w' h => by
      have := encode_any n hw cs w' h
      rwa [encB_yes hc, hc] at this) (fun w' => decode_yes (bs (encN n)) (by rw [bs_size]; omega) (by rw [bs_data]; exact dec_enc hw hc) (by omega) w') (.inl ⟨rfl, rfl⟩) (by omega) w hn
  · exact nodeOwn_at n hw h1 h2 h3 cs ByteArray.empty (ckN n) 9 ⟨0, [], [], []⟩ (fun w' h => by
      have := encode_any n hw cs w' h
      rwa [encB_no hc] at this) (fun w' => decode_no ByteArray.empty (by decide) (by
        have h := dec_nil
        show decN [] = none
        cases hd : decN [] with
        | none => rfl
        | some k => rw [hd] at h; cases h) w') (.inr rfl) (by decide) w hn
end Go.Proofs.YtmibgdlmhjkpfaaDoor.Nd
