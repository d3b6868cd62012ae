/- The walk of TopKeyed: it answers true. -/
import Derived.Test.YtkmbophbjgfacaaDoorKyC
import Derived.Test.YtkmbophbjgfacaaDoorPaC
import Derived.Test.YtkmbophbjgfacaaDoorBegK
namespace Go.Proofs.YtkmbophbjgfacaaDoor.Ino
set_option linter.unusedVariables false
set_option linter.unusedSimpArgs false
open Go.ChangeShapes Go.WideShapes Go.ChangeAt Go.RowKit
open BigFrame
open Ar Rg
open Pk (be num be_length num_be num_lt bs bs_size nB nE tN tR tE xB_size)
open Ph (has tl tl_len nb nm en1 en1_len one_cell spB spX split_any SplitPost map_all)
open Hk (Row kc first row_below)
theorem str_eq2 (x : ByteArray) : (x.toList == x.toList) = true ∧ (x.toList != x.toList) = false := ⟨beq_self_eq_true _, by rw [bne, beq_self_eq_true]; rfl⟩
theorem bl_app (p x y : List UInt8) : Op.bytesLess (p ++ x) (p ++ y) = Op.bytesLess x y := by
  induction p with
  | nil => rfl
  | cons a p ih =>
    show (decide (a < a) || (a == a && Op.bytesLess (p ++ x) (p ++ y))) = _
    rw [ih, beq_self_eq_true]
    simp [UInt8.lt_irrefl]
/-- a name's key in the directory I -/
def kn (I : Nat) (x : ByteArray) : ByteArray := pfx 2 I ++ x
theorem kn_ok {I : Nat} {x : ByteArray} (h0 : 1 ≤ I) (hI : I < 4294967296) (hx : nb x = true) : okK ⟨2, I, x, 0⟩ = true ∧ (⟨2, I, x, 0⟩ : Ky).lim ∧ wrK ⟨2, I, x, 0⟩ = kn I x ∧ 5 ≤ (kn I x).size ∧ (kn I x).size ≤ 29 ∧ (kn I x).extract 0 5 = pfx 2 I := by
  have h : okK ⟨2, I, x, 0⟩ = true := okK_iff.2 ⟨h0, .inr (.inl ⟨.inl rfl, hx, rfl⟩)⟩
  have e := wrK_pfx h
  have e1 : wrK ⟨2, I, x, 0⟩ = kn I x := e.1
  rw [e1] at e
  exact ⟨h, ⟨show (2 : Nat) < 256 by decide, hI, show (0 : Nat) < 4294967296 by decide⟩, e1, e.2.2.1, e.2.2.2, e.2.1⟩
theorem kn_two (I : Nat) (x y : ByteArray) : Op.bytesLess (kn I x).toList (kn I y).toList = Op.bytesLess x.toList y.toList ∧ ((kn I x).toList == (kn I y).toList) = (x.toList == y.toList) := by
  unfold kn
  simp only [ByteArray.toList_eq, ByteArray.data_append, Array.toList_append]
  refine ⟨bl_app _ _ _, ?_⟩
  rw [Bool.eq_iff_iff, beq_iff_eq, beq_iff_eq, List.append_cancel_left_eq]
/-- what of a name's key is asked -/
structure KnF (I : Nat) (P x s : ByteArray) : Prop where
  key : ∀ w, Calls Tryd.prog 7 #[.agg #[.int .u8 2, .int .u32 I, .string x, .int .u32 0]] w fun e w' => e = .returned (.tuple #[.string s, .int .i64 0]) ∧ Below w.heap.size w w'
  parse : ∀ w, Calls Tryd.prog 8 #[.string s] w fun e w' => e = .returned (.tuple #[.agg #[.int .u8 2, .int .u32 I, .string x, .int .u32 0], .int .i64 0]) ∧ Below w.heap.size w w'
  lo : 5 ≤ s.size
  hi : s.size ≤ 29
  cut : (((s.extract 0 5).toList == P.toList) = true ∧ ((s.extract 0 5).toList != P.toList) = false)
  own : s = kn I x
theorem kn_facts {I : Nat} {x : ByteArray} (h0 : 1 ≤ I) (hI : I < 4294967296) (hx : nb x = true) : KnF I (pfx 2 I) x (kn I x) := by
  obtain ⟨h, hl, e, h1, h2, h3⟩ := kn_ok h0 hI hx
  refine ⟨fun w => ?_, fun w => ?_, h1, h2, by rw [h3]; exact str_eq2 _, rfl⟩
  · have := key_in ⟨2, I, x, 0⟩ hl w
    rw [(chK_yes h).1, (chK_yes h).2, e] at this
    exact this
  · have := parse_in (kn I x) (by unfold maxLen; omega) w
    rw [← e, (deK_back hl h).1, (deK_back hl h).2, e] at this
    exact this
theorem sp_names {p : ByteArray} (h : spX p = 0) : ∀ x ∈ spB p, nb x = true := by
  have h1 := (Ph.sp_ok (p := p.data.toList) h).2.1
  have h2 : (spB p).all nb = true := by unfold spB; rw [map_all]; exact h1
  exact fun x hx => List.all_eq_true.1 h2 x hx
theorem new_row1 {w1 : World} {old cs : Array Value} {t : TypeId} : ((w1.alloc (.cells old t)).setRow w1.heap.size cs).heap[w1.heap.size]? = some (.cells cs t (0, 0)) ∧ Below w1.heap.size w1 ((w1.alloc (.cells old t)).setRow w1.heap.size cs) ∧ w1.heap.size < ((w1.alloc (.cells old t)).setRow w1.heap.size cs).heap.size := by
  have h0 := heap_alloc_new w1 (.cells old t)
  have h1 : ((w1.alloc (.cells old t)).setRow w1.heap.size cs).heap[w1.heap.size]? = some (.cells cs t (0, 0)) := setRow_heap' (heap_alloc_new w1 _)
  refine ⟨h1, below_setRow ((Below.refl w1.heap.size w1).alloc (Nat.le_refl _) (.cells old t)) (Nat.le_refl w1.heap.size) cs, ?_⟩
  rcases Nat.lt_or_ge w1.heap.size ((w1.alloc (.cells old t)).setRow w1.heap.size cs).heap.size with h' | h'
  · exact h'
  · rw [Array.getElem?_eq_none h'] at h1; cases h1
variable {tK tS : TypeId}
set_option maxRecDepth 100000 in
set_option maxHeartbeats 4000000 in
theorem topKeyed_walk (w : World) (p : ByteArray) (hp : p.size ≤ maxLen) (I : Nat) (hI : I < 4294967296)
    (hR : Row w 1 tK kc) (hR0 : Row w 0 tS first.list) :
    Calls Tryd.prog 3 #[.string p, .int .u32 I] w fun e w' => e = .returned (.bool true) ∧ Below w.heap.size w w' := by
  have RK := Lib.hid hR
  have RF := Lib.hid hR0
  have HS := Lib.hid (fun w => split_any p hp w)
  have HNB := Lib.hid (fun h : spX p = 0 => sp_names h)
  have HP := Lib.hid (fun w => prefix_in 2 I (by decide) hI w)
  have HKF := Lib.hid (fun (h0 : 1 ≤ I) (x : ByteArray) (hx : nb x = true) => kn_facts h0 hI hx)
  have HPZ := Lib.hid (show (pfx 2 I).size = 5 by unfold pfx; rw [if_neg (lt_of (by decide) (by decide)), ByteArray.size_append, bs_size, bs_size, be_length]; rfl)
  clear hR hR0 hI
  obtain ⟨P, hP⟩ : ∃ P, pfx 2 I = P := ⟨_, rfl⟩
  rw [hP] at HP HKF HPZ
  obtain ⟨x, hx⟩ : ∃ x, spX p = x := ⟨_, rfl⟩
  obtain ⟨D, hD⟩ : ∃ D, spB p = D := ⟨_, rfl⟩
  unfold SplitPost at HS
  rw [hx, hD] at HS
  rw [hx, hD] at HNB
  clear hP hx hD hp
  go_enter Tryd.func3, Tryd.ntmps3
  go_wp2_with fail
  (go_at_call 4; (with_reducible refine (Be.begins_any _ RK.out RF.out).mono ?_); rintro e w1 ⟨rfl, hb1⟩)
  have B1 := Lib.hid hb1
  clear hb1 RK RF
  go_wp2_with fail
  go_at_call 5
  refine (HS.out w1).mono ?_
  rintro e w2 ⟨v, rfl, hM⟩
  obtain ⟨A, c, rfl, h1, h2, h3⟩ := hM.ls en1_len
  have B2 := Lib.hid (B1.out.trans (hM.2.mono B1.out.size))
  have HL := Lib.hid h3
  obtain ⟨n, hn⟩ : ∃ n, D.length = n := ⟨_, rfl⟩
  rw [hn] at h1
  have HN := Lib.hid hn
  have hc : c ≤ 9223372036854775807 := by unfold maxLen at h2; omega
  rw [hn]
  clear hM h3 hn h2 B1 HS
  by_cases hx0 : x = 0
  · subst hx0
    have HB := Lib.hid (HNB.out rfl)
    clear HNB
    by_cases hi0 : I = 0
    · subst hi0
      go_wp2
      go_ret
      exact ⟨rfl, B2.out⟩
    · have d0 : decide ((I : Int) = 0) = false := by rw [decide_eq_false_iff_not]; omega
      have HF := Lib.hid (HKF.out (by omega))
      clear HKF
      go_wp2_with fail
      go_at_call 6
      refine (HP.out w2).mono ?_
      rintro e w3 ⟨rfl, hb3⟩
      have B3 := Lib.hid hb3
      clear hb3 HP d0
      have HAT := Lib.hid (show Below w2.heap.size w2 w3 from B3.out)
      clear B3
      go_wp2_with fail
      go_loopw [35] (fun v wr => ∃ i : Nat, i ≤ n ∧ v = .int .i64 i ∧ Hid (Below w2.heap.size w2 wr)) (fun v _ => n - (intOf v).toNat)
      case atStart => exact ⟨0, Nat.zero_le _, by go_num, HAT⟩
      case round =>
        clear HAT
        obtain ⟨wo, rfl⟩ : ∃ wo : World, wo = wr := ⟨_, rfl⟩
        obtain ⟨i, hi, rfl, hat⟩ := hrel
        by_cases hlt : i < n
        · obtain ⟨x, hx⟩ : ∃ x, D[i]? = some x := ⟨_, List.getElem?_eq_getElem (by rw [HN.out]; exact hlt)⟩
          have HX := Lib.hid (HF.out x (HB.out x (List.mem_of_getElem? hx)))
          obtain ⟨b, o, hAe, hbs, hcl⟩ := one_cell (HL.out.below (Hid.out hat)) hx
          subst hAe
          obtain ⟨s, hs⟩ : ∃ s, kn I x = s := ⟨_, rfl⟩
          rw [hs] at HX
          have s1 := HX.out.lo
          have s2 := HX.out.hi
          clear hs hx
          go_wp2_with fail
          go_at_call 7
          refine (HX.out.key _).mono ?_
          rintro e w4 ⟨rfl, hb4⟩
          have B4 := Lib.hid ((Hid.out hat).trans (hb4.mono (Hid.out hat).size))
          clear hb4 hcl hat
          go_wp2_with fail
          go_at_call 8
          refine (HX.out.parse _).mono ?_
          rintro e w5 ⟨rfl, hb5⟩
          have B5 := Lib.hid (B4.out.trans (hb5.mono B4.out.size))
          clear hb5 B4
          have N5 := Lib.hid (new_row1 (w1 := w5) (old := #[.int .u8 0, .int .u32 0, .string ⟨#[]⟩, .int .u32 0]) (cs := #[.int .u8 2, .int .u32 I, .string x, .int .u32 0]) (t := 33))
          have z5 := HPZ.out
          obtain ⟨f1, f2⟩ := HX.out.cut
          go_wp2_with (refine wpList_store_row rfl 33 (.tmp 12) (.tmp 50) rfl w5.heap.size #[.int .u8 2, .int .u32 I, .string x, .int .u32 0] rfl rfl 33 #[.int .u8 0, .int .u32 0, .string ⟨#[]⟩, .int .u32 0] (heap_alloc_new w5 _) (by kernel_rfl) rfl (row4 _ _ _ _) ?_; change wpList _ _ _ _ _ ((w5.alloc (.cells #[.int .u8 0, .int .u32 0, .string ⟨#[]⟩, .int .u32 0] 33)).setRow w5.heap.size #[.int .u8 2, .int .u32 I, .string x, .int .u32 0]); generalize ((w5.alloc (.cells #[.int .u8 0, .int .u32 0, .string ⟨#[]⟩, .int .u32 0] 33)).setRow w5.heap.size #[.int .u8 2, .int .u32 I, .string x, .int .u32 0]) = V at *; have e2 : V.cell? ⟨w5.heap.size, 2, none⟩ = some (.string x) := (cell_of_row V w5.heap.size 2 #[.int .u8 2, .int .u32 I, .string x, .int .u32 0] 33 (0, 0) N5.out.1).trans rfl; have e1 : V.cell? ⟨w5.heap.size, 1, none⟩ = some (.int .u32 I) := (cell_of_row V w5.heap.size 1 #[.int .u8 2, .int .u32 I, .string x, .int .u32 0] 33 (0, 0) N5.out.1).trans rfl)
          have HAT := Lib.hid (B5.out.trans (N5.out.2.1.mono B5.out.size))
          clear e1 e2 N5 B5 z5 f1 f2
          go_loopw [82] (fun v wr => ∃ j : Nat, j ≤ i ∧ v = .int .i64 j ∧ Hid (Below w2.heap.size w2 wr)) (fun v _ => i - (intOf v).toNat)
          case atStart => exact ⟨0, Nat.zero_le _, by go_num, HAT⟩
          case round =>
            clear HAT
            obtain ⟨j, hj, rfl, hat⟩ := hrel
            by_cases hjn : j < i
            · obtain ⟨y, hy⟩ : ∃ y, D[j]? = some y := ⟨_, List.getElem?_eq_getElem (by rw [HN.out]; omega)⟩
              have HY := Lib.hid (HF.out y (HB.out y (List.mem_of_getElem? hy)))
              obtain ⟨b2, o2, hAe, hbs2, hcl⟩ := one_cell (HL.out.below (Hid.out hat)) hy
              cases hAe
              have K2 := kn_two I x y
              rw [← HX.out.own] at K2
              obtain ⟨t, ht⟩ : ∃ t, kn I y = t := ⟨_, rfl⟩
              rw [ht] at HY K2
              obtain ⟨β, hβ⟩ : ∃ β, Op.bytesLess x.toList y.toList = β := ⟨_, rfl⟩
              obtain ⟨γ, hγ⟩ : ∃ γ, (x.toList == y.toList) = γ := ⟨_, rfl⟩
              rw [hβ, hγ] at K2
              have HK2 := Lib.hid K2
              have HE1 := Lib.hid hβ
              have HE2 := Lib.hid hγ
              clear K2 hβ hγ ht hy
              go_wp2_with fail
              go_at_call 7
              refine (HY.out.key _).mono ?_
              rintro e w6 ⟨rfl, hb6⟩
              have B6 := Lib.hid ((Hid.out hat).trans (hb6.mono (Hid.out hat).size))
              clear hb6 hcl hat
              have q1 := HK2.out.1
              have q2 := HK2.out.2
              have q3 := HE1.out
              have q4 := HE2.out
              clear HK2 HE1 HE2
              go_wp2_with fail
              exact ⟨⟨j + 1, by omega, by go_num, B6⟩, by simp [intOf] <;> omega⟩
            · obtain rfl : j = i := by omega
              go_wp2_with fail
              exact ⟨⟨j + 1, by omega, by go_num, hat⟩, by simp [intOf] <;> omega⟩
        · obtain rfl : i = n := by omega
          go_wp2
          go_ret
          exact ⟨rfl, B2.out.trans ((Hid.out hat).mono B2.out.size)⟩
  · have dx : decide (x = 0) = false := by rw [decide_eq_false_iff_not]; exact hx0
    go_wp2
    go_ret
    exact ⟨rfl, B2.out⟩
end Go.Proofs.YtkmbophbjgfacaaDoor.Ino
