/- Contract of package node's written: a node's bytes, by strings.Builder. -/
import Derived.Test.YtlchjohaacbkpaaGreatDoorNdS
import Derived.Test.YtlchjohaacbkpaaGreatDoorZrg
import Derived.Test.YtlchjohaacbkpaaGreatDoorNdD
namespace Go.Proofs.YtlchjohaacbkpaaGreatDoor.Nd
set_option linter.unusedVariables false
set_option linter.unusedSimpArgs false
open Go.ChangeShapes Go.WideShapes Go.ChangeAt Go.RowKit
open Ar Rg
open BigFrame
open Pk (be num be_length u8s u8s_length)
open It (str_le below_drewN)
/-- a builder of the call's own, in block b -/
abbrev Bld (w : World) (B b : Nat) (L : List UInt8) : Prop := Lib.IsBuilder 130 5 B b (Lib.byteCells L) w
theorem bat_below {T e : TypeId} {B b : Nat} {p : Value} {l : List Value} {w w' : World} (h : Lib.BuilderAt T e B b p l w) (hb : Below w.heap.size w w') : Lib.BuilderAt T e B b p l w' := by
  have hlt := h.lt
  obtain ⟨hB, v, h0, hown, hne⟩ := h
  exact ⟨hB, v, (hb.block b hlt).trans h0, hown.kept ⟨hb.os, hb.tape, hb.output, hb.size, fun k hk _ => hb.block k hk⟩ (Classical.em _), hne⟩
theorem Bld.below {w w' : World} {B b : Nat} {L : List UInt8} (h : Bld w B b L) (hb : Below w.heap.size w w') : Bld w' B b L := h.elim (fun h => .inl (bat_below h hb)) (fun h => .inr (bat_below h hb))
theorem write_bd {w : World} {B b : Nat} {L : List UInt8} (h : Bld w B b L) (l : List UInt8) (hlen : L.length + l.length ≤ 140737488355328) (hBw : B ≤ w.heap.size) :
    Calls Tryz.prog 73 #[.pointer (some ⟨b, 0, none⟩), .string (bs l)] w fun e w' => e = .returned (.tuple #[.int .i64 l.length, .nilIface]) ∧ Bld w' B b (L ++ l) ∧ Below B w w' := by
  have := Any.Builder_WriteString Tryz.part166 Tryz.Builder_Extra_105 B b (Lib.byteCells L) (bs l) w h (by rw [Lib.byteCells_length, bs_size]; exact hlen) hBw
  refine this.mono fun e w' h => ?_
  obtain ⟨h1, h2, h3⟩ := h
  rw [bs_size] at h1
  refine ⟨h1, .inr ?_, h3⟩
  rw [Lib.byteCells_append]
  exact h2
theorem string_bd {w : World} {B b : Nat} {L : List UInt8} (h : Bld w B b L) (hBw : B ≤ w.heap.size) :
    Calls Tryz.prog 76 #[.pointer (some ⟨b, 0, none⟩)] w fun e w' => e = .returned (.string (bs L)) ∧ Below B w w' := Any.Builder_String_any Tryz.part169 Tryz.Builder_Extra_105 B b L w h hBw
/-- where the writing stands -/
def Wst (W : World) (b : Nat) (L : List UInt8) (M : Nat) (wr : World) : Prop := Bld wr b b L ∧ Below b W wr ∧ b ≤ wr.heap.size ∧ L.length ≤ M
theorem Wst.next {W wr w2 w3 : World} {b M m : Nat} {L l : List UInt8} (h : Wst W b L M wr) (hb : Below wr.heap.size wr w2) (h3 : Bld w3 b b (L ++ l)) (hb3 : Below b w2 w3) (hl : l.length ≤ m) : Wst W b (L ++ l) (M + m) w3 := by
  obtain ⟨h1, h2, h4, h5⟩ := h
  have q : Below b wr w2 := hb.mono h4
  refine ⟨h3, (h2.trans q).trans hb3, Nat.le_trans h4 (Nat.le_trans hb.size hb3.size), ?_⟩
  rw [List.length_append]; omega
theorem flat_snoc {α : Type} (f : α → List UInt8) {D : List α} {i : Nat} {x : α} (h : D[i]? = some x) (L : List UInt8) : L ++ (D.take (i + 1)).flatMap f = L ++ (D.take i).flatMap f ++ f x := by
  obtain ⟨hk, e⟩ := List.getElem?_eq_some_iff.1 h
  rw [List.take_succ_eq_append_getElem hk, e, List.flatMap_append, List.append_assoc]
  simp
/-- the bytes of an array's cells, read as a text -/
theorem conv_hash {w' : World} {q o : Nat} {l : List UInt8} (h : l.length = 32) (hr : w'.rangeAt q o (u8s l)) :
    (convert 54 9 (.slice (some ⟨q, o, none⟩) 32 32)).run Tryz.prog w' = .ok (.string (bs l)) w' := by
  have := run_convert_bytes_back (P := Tryz.prog) w' 54 9 5 ⟨q, o, none⟩ 32 l Tryz.underlying54 Tryz.underlying5 Tryz.underlying9 (fun j hj => by
    rw [Ar.add_plain]
    exact hr j _ (by unfold u8s; rw [List.getElem?_map, List.getElem?_eq_getElem hj]; rfl))
  rw [h] at this
  exact this
abbrev txt (s : ByteArray) : List UInt8 := be 1 s.data.toList.length ++ s.data.toList
theorem txt_len (s : ByteArray) : (txt s).length = 1 + s.size := by
  rw [List.length_append, be_length, Array.length_toList]; rfl
theorem bs_le' (l : List UInt8) (m : Nat) (h : l.length ≤ m) : (bs l).size ≤ m := by rw [bs_size]; exact h
set_option maxRecDepth 100000 in
set_option maxHeartbeats 8000000 in
theorem written_any (n : Nd) (hf : Fm n) (cs : Array Value) (w : World) (hn : NdAt w cs n) :
    Calls Tryz.prog 44 #[.agg cs] w fun e w' => e = .returned (.string (bs (wN n))) ∧ Below w.heap.size w w' := by
  obtain ⟨AI, nI, dI, AK, nK, dK, AV, nV, dV, rfl, hI, hK, hV, bI, bK, bV, lI, lK, lV⟩ := hn
  obtain ⟨kd, I, K, V⟩ := n
  obtain ⟨hkd, few, okI, okK, okV⟩ := hf
  dsimp only at hI hK hV lI lK lV hkd few okI okK okV ⊢
  have hk8 : kd < 256 := by omega
  clear hkd
  rw [← hI, ← hK, ← hV] at few
  have HI := Lib.hid hI
  have HK := Lib.hid hK
  have HV := Lib.hid hV
  have HLI := Lib.hid lI
  have HLK := Lib.hid lK
  have HLV := Lib.hid lV
  have HOI := Lib.hid okI
  have HOK := Lib.hid okK
  have HOV := Lib.hid okV
  obtain ⟨L0, hL0⟩ : ∃ L0, be 1 kd ++ be 1 (nI + nK + nV) = L0 := ⟨_, rfl⟩
  have HWN := Lib.hid (show wN ⟨kd, I, K, V⟩ = L0 ++ I.flatMap cI.wr ++ K.flatMap cK.wr ++ V.flatMap cV.wr by
    unfold wN
    dsimp only
    rw [← hI, ← hK, ← hV, ← hL0]
    simp only [List.append_assoc])
  have HL0 := Lib.hid (show L0.length ≤ 2 by rw [← hL0, List.length_append, be_length, be_length]; omega)
  have HN1 := Lib.hid (show ∀ w, Calls Tryz.prog 74 #[.int .u64 (kd : Int), .int .i64 1] w fun e w' => e = .returned (.string (bs (be 1 kd))) ∧ Below w.heap.size w w' from fun w => number_be kd 1 w (by omega) (by omega) (by omega))
  have HN2 := Lib.hid (show ∀ w, Calls Tryz.prog 74 #[.int .u64 ((nI : Int) + (nK : Int) + (nV : Int)), .int .i64 1] w fun e w' => e = .returned (.string (bs (be 1 (nI + nK + nV)))) ∧ Below w.heap.size w w' from fun w => number_be (nI + nK + nV) 1 w (by omega) (by omega) (by omega))
  have HE0 := Lib.hid (show bs (be 1 kd) ++ bs (be 1 (nI + nK + nV)) = bs L0 by rw [bs_app, hL0])
  have z1 : (bs (be 1 kd)).size ≤ 1 := by rw [bs_size, be_length]; omega
  have z2 : (bs (be 1 (nI + nK + nV))).size ≤ 1 := by rw [bs_size, be_length]; omega
  clear hL0 hI hK hV lI lK lV okI okK okV
  generalize bs (be 1 kd) = S1 at *
  generalize bs (be 1 (nI + nK + nV)) = S2 at *
  obtain ⟨R1, R2, S0, Z0⟩ := two_new w #[.int .u8 (kd : Int), .slice AI nI dI, .slice AK nK dK, .slice AV nV dV] #[.pointer none, .slice none 0 0] 27 130
  have HR1 := Lib.hid R1
  have HS0 := Lib.hid S0
  have HZ0 := Lib.hid (show w.heap.size + 1 ≤ ((w.alloc (.cells #[.int .u8 (kd : Int), .slice AI nI dI, .slice AK nK dK, .slice AV nV dV] 27)).alloc (.cells #[.pointer none, .slice none 0 0] 130)).heap.size by rw [Z0]; exact Nat.le_succ _)
  have HBD := Lib.hid (show Bld ((w.alloc (.cells #[.int .u8 (kd : Int), .slice AI nI dI, .slice AK nK dK, .slice AV nV dV] 27)).alloc (.cells #[.pointer none, .slice none 0 0] 130)) (w.heap.size + 1) (w.heap.size + 1) [] by
    have := Lib.fresh_isBuilder 130 5 (w.alloc (.cells #[.int .u8 (kd : Int), .slice AI nI dI, .slice AK nK dK, .slice AV nV dV] 27))
    rw [show (w.alloc (.cells #[.int .u8 (kd : Int), .slice AI nI dI, .slice AK nK dK, .slice AV nV dV] 27)).heap.size = w.heap.size + 1 by simp] at this
    exact this)
  clear R1 R2 S0 Z0
  go_enter Tryz.func44, Tryz.ntmps44
  go_wp2_with fail
  generalize (w.alloc _).alloc _ = W2 at *
  go_at_call 74
  refine (HN1.out _).mono ?_
  rintro e w3 ⟨rfl, hb3⟩
  have B3 := Lib.hid hb3
  clear hb3
  go_wp2_with fail
  go_at_call 74
  refine (HN2.out _).mono ?_
  rintro e w4 ⟨rfl, hb4⟩
  have B4 := Lib.hid (B3.out.trans (hb4.mono B3.out.size))
  clear hb4 B3
  go_wp2_with fail
  rw [HE0.out]
  go_at_call 73
  refine (write_bd (HBD.out.below B4.out) L0 (by have := HL0.out; simp; omega) (Nat.le_trans HZ0.out B4.out.size)).mono ?_
  rintro e w5 ⟨rfl, hd5, hb5⟩
  have D5 := Lib.hid hd5
  have B5 := Lib.hid ((B4.out.mono HZ0.out).trans hb5)
  have HR5 := Lib.hid ((B5.out.block w.heap.size (Nat.lt_succ_self _)).trans HR1.out)
  have HB5 := Lib.hid (HS0.out.trans (B5.out.mono (Nat.le_succ _)))
  have HZ5 := Lib.hid (Nat.le_trans HZ0.out B5.out.size)
  clear hd5 hb5 B4 HBD HS0 HZ0 HR1 HN1 HN2 HE0 B5 z1 z2
  have m1 : w5.cell? ⟨w.heap.size, 1, none⟩ = some (.slice AI nI dI) := cell_of_row _ _ 1 _ _ _ HR5.out
  go_wp2_with fail
  go_loopw [34] (fun v wr => ∃ i : Nat, i ≤ nI ∧ v = .int .i64 i ∧ Hid (Wst w5 (w.heap.size + 1) (L0 ++ (I.take i).flatMap cI.wr) (2 + i * 600) wr)) (fun v _ => nI - (intOf v).toNat)
  case atStart => exact ⟨0, Nat.zero_le _, by go_num, ⟨by simpa using D5.out, Below.refl _ _, HZ5.out, by simpa using HL0.out⟩⟩
  case round =>
    obtain ⟨i, hi, rfl, hst⟩ := hrel
    by_cases hlt : i < nI
    · obtain ⟨x, hx⟩ : ∃ x, I[i]? = some x := ⟨_, List.getElem?_eq_getElem (by rw [← HI.out]; exact hlt)⟩
      have hok := HOI.out x (List.mem_of_getElem? hx)
      have hk1 : x.k.size < 256 := by have h : x.k.data.toList.length < 256 := hok.1; rw [Array.length_toList] at h; exact h
      have hk2 : x.v.size < 256 := by have h : x.v.data.toList.length < 256 := hok.2; rw [Array.length_toList] at h; exact h
      have HW := Lib.hid hst
      have hBe : Below w.heap.size w wr := HB5.out.trans ((Hid.out hst).2.1.mono (Nat.le_succ _))
      obtain ⟨b, o, hAe, hb, hr⟩ := (HLI.out.below hBe) i x hx
      have hbs : b < wr.heap.size := Nat.lt_of_lt_of_le hb hBe.size
      have HSN := Lib.hid (flat_snoc cI.wr hx (L0))
      have HT0 := Lib.hid (fun w => text_at x.k w (by omega))
      have zt0 : (bs (txt x.k)).size ≤ 256 := bs_le' _ _ (by rw [txt_len]; omega)
      obtain ⟨T0, hT0⟩ : ∃ T, txt x.k = T := ⟨_, rfl⟩
      have HT1 := Lib.hid (fun w => text_at x.v w (by omega))
      have zt1 : (bs (txt x.v)).size ≤ 256 := bs_le' _ _ (by rw [txt_len]; omega)
      obtain ⟨T1, hT1⟩ : ∃ T, txt x.v = T := ⟨_, rfl⟩
      have HLW := Lib.hid (show cI.wr x = (T0 ++ T1) by rw [← hT0, ← hT1]; simp only [List.append_assoc]; rfl)
      have HLEN := Lib.hid (show (cI.wr x).length ≤ 600 by rw [wrI_len]; unfold szI; omega)
      have HEA := Lib.hid (show bs T0 ++ bs T1 = bs (T0 ++ T1) by simp only [bs_app])
      rw [show (be 1 x.k.data.toList.length ++ x.k.data.toList) = T0 from hT0] at HT0
      rw [hT0] at zt0
      rw [show (be 1 x.v.data.toList.length ++ x.v.data.toList) = T1 from hT1] at HT1
      rw [hT1] at zt1
      have HST := Lib.hid hst
      have hc0 : wr.cell? ⟨b, o + i * 2, none⟩ = some (.string x.k) := hr 0 _ rfl
      have hc1 : wr.cell? ⟨b, o + i * 2 + 1, none⟩ = some (.string x.v) := hr 1 _ rfl
      have HQL := Lib.hid (show wr.heap.size < (wr.alloc (.cells #[.string x.k, .string x.v] 88)).heap.size by simp)
      have HBW := Lib.hid (show Below wr.heap.size wr (wr.alloc (.cells #[.string x.k, .string x.v] 88)) from (Below.refl _ _).alloc (Nat.le_refl _) _)
      have HC0 := Lib.hid (show (wr.alloc (.cells #[.string x.k, .string x.v] 88)).cell? ⟨wr.heap.size, 0, none⟩ = some (.string x.k) by simp)
      have HC1 := Lib.hid (show (wr.alloc (.cells #[.string x.k, .string x.v] 88)).cell? ⟨wr.heap.size, 1, none⟩ = some (.string x.v) by simp)
      clear hr hx hst hBe hok hT0 hT1
      subst hAe
      go_wp2_with fail
      generalize wr.alloc _ = W at *
      refine wp_region_S (fun w' => Below W.heap.size W w') 7 (by kernel_rfl) (by kernel_rfl) (by kernel_rfl) ((Below.refl _ _).drew) ?_
      simp only [List.take_succ_cons, List.take_zero]
      refine wpG_val (.pointer (some ⟨wr.heap.size, 0, none⟩)) rfl (by rfl) (fun w' hSw => by go_simp) ?_
      simp only [List.setIfInBounds_toArray, List.set_cons_zero, List.set_cons_succ]
      refine wpG_val (.string x.k) rfl (by rfl) (fun w' hSw => by have c := (hSw.cell (p := ⟨wr.heap.size, 0, none⟩) HQL.out).trans HC0.out; go_simp) ?_
      simp only [List.setIfInBounds_toArray, List.set_cons_zero, List.set_cons_succ]
      refine wpG_call (.string (bs T0)) 75 #[.string x.k] rfl (by rfl) (fun w' => by go_simp) (fun w' hSw => (HT0.out w').mono fun e w2 h => ⟨h.1, hSw.trans (h.2.mono hSw.size)⟩) ?_
      simp only [List.setIfInBounds_toArray, List.set_cons_zero, List.set_cons_succ]
      refine wpG_val (.pointer (some ⟨wr.heap.size, 1, none⟩)) rfl (by rfl) (fun w' hSw => by go_simp) ?_
      simp only [List.setIfInBounds_toArray, List.set_cons_zero, List.set_cons_succ]
      refine wpG_val (.string x.v) rfl (by rfl) (fun w' hSw => by have c := (hSw.cell (p := ⟨wr.heap.size, 1, none⟩) HQL.out).trans HC1.out; go_simp) ?_
      simp only [List.setIfInBounds_toArray, List.set_cons_zero, List.set_cons_succ]
      refine wpG_call (.string (bs T1)) 75 #[.string x.v] rfl (by rfl) (fun w' => by go_simp) (fun w' hSw => (HT1.out w').mono fun e w2 h => ⟨h.1, hSw.trans (h.2.mono hSw.size)⟩) ?_
      simp only [List.setIfInBounds_toArray, List.set_cons_zero, List.set_cons_succ]
      refine wpG_val (.string (bs T0 ++ bs T1)) rfl (by rfl) (fun w' hSw => by go_simp <;> omega) ?_
      simp only [List.setIfInBounds_toArray, List.set_cons_zero, List.set_cons_succ]
      refine wpG_nil ?_
      intro wS hSw
      simp only [List.drop_succ_cons, List.drop_zero]
      go_wp2_with fail
      rw [HEA.out, ← HLW.out]
      go_at_call 73
      refine (write_bd ((HST.out.1.below HBW.out).below hSw) (cI.wr x) (by have h1 := HST.out.2.2.2; have h2 := HLEN.out; omega) (Nat.le_trans HST.out.2.2.1 (Nat.le_trans HBW.out.size hSw.size))).mono ?_
      rintro e w6 ⟨rfl, hd6, hb6⟩
      have HN6 := Lib.hid (HST.out.next (HBW.out.trans (hSw.mono HBW.out.size)) hd6 hb6 HLEN.out)
      rw [← HSN.out, show 2 + i * 600 + 600 = 2 + (i + 1) * 600 by omega] at HN6
      clear hd6 hb6 hSw HST HBW
      go_wp2_with fail
      exact ⟨⟨i + 1, by omega, by go_num, HN6.out⟩, by simp [intOf] <;> omega⟩
    · have HEI := Lib.hid (show Wst w5 (w.heap.size + 1) (L0 ++ I.flatMap cI.wr) (2 + nI * 600) wr by have h := Hid.out hst; rw [List.take_of_length_le (by rw [← HI.out]; omega), show i = nI by omega] at h; exact h)
      clear hst
      have m2 : wr.cell? ⟨w.heap.size, 2, none⟩ = some (.slice AK nK dK) := cell_of_row _ _ 2 _ _ _ ((HEI.out.2.1.block w.heap.size (Nat.lt_succ_self _)).trans HR5.out)
      go_wp2_with fail
      clear hlt hi
      go_loopw [50] (fun v wr => ∃ i : Nat, i ≤ nK ∧ v = .int .i64 i ∧ Hid (Wst w5 (w.heap.size + 1) (L0 ++ I.flatMap cI.wr ++ (K.take i).flatMap cK.wr) (2 + nI * 600 + i * 600) wr)) (fun v _ => nK - (intOf v).toNat)
      case atStart => exact ⟨0, Nat.zero_le _, by go_num, by show Wst _ _ (_ ++ (K.take 0).flatMap _) (_ + 0 * 600) _; rw [List.take_zero, List.flatMap_nil, List.append_nil, Nat.zero_mul, Nat.add_zero]; exact HEI.out⟩
      case round =>
        obtain ⟨i, hi, rfl, hst⟩ := hrel
        by_cases hlt : i < nK
        · obtain ⟨x, hx⟩ : ∃ x, K[i]? = some x := ⟨_, List.getElem?_eq_getElem (by rw [← HK.out]; exact hlt)⟩
          have hok := HOK.out x (List.mem_of_getElem? hx)
          have hk1 : x.k.size < 256 := by have h : x.k.data.toList.length < 256 := hok.1; rw [Array.length_toList] at h; exact h
          have hk2 : x.n < 4294967296 := hok.2.1
          have hxl : x.hs.length = 32 := hok.2.2
          have HW := Lib.hid hst
          have hBe : Below w.heap.size w wr := HB5.out.trans ((Hid.out hst).2.1.mono (Nat.le_succ _))
          obtain ⟨b, o, hAe, hb, hr⟩ := (HLK.out.below hBe) i x hx
          have hbs : b < wr.heap.size := Nat.lt_of_lt_of_le hb hBe.size
          have HSN := Lib.hid (flat_snoc cK.wr hx (L0 ++ I.flatMap cI.wr))
          have HT0 := Lib.hid (fun w => text_at x.k w (by omega))
          have zt0 : (bs (txt x.k)).size ≤ 256 := bs_le' _ _ (by rw [txt_len]; omega)
          obtain ⟨T0, hT0⟩ : ∃ T, txt x.k = T := ⟨_, rfl⟩
          have HT1 := Lib.hid (show ∀ w, Calls Tryz.prog 74 #[.int .u64 (x.n : Int), .int .i64 4] w fun e w' => e = .returned (.string (bs (be 4 x.n))) ∧ Below w.heap.size w w' from fun w => number_be x.n 4 w (by omega) (by omega) (by omega))
          have zt1 : (bs (be 4 x.n)).size ≤ 256 := bs_le' _ _ (by rw [be_length]; omega)
          obtain ⟨T1, hT1⟩ : ∃ T, be 4 x.n = T := ⟨_, rfl⟩
          have zt2 : (bs x.hs).size ≤ 256 := bs_le' _ _ (by omega)
          obtain ⟨T2, hT2⟩ : ∃ T, x.hs = T := ⟨_, rfl⟩
          have HLW := Lib.hid (show cK.wr x = ((T0 ++ T1) ++ T2) by rw [← hT0, ← hT1, ← hT2]; simp only [List.append_assoc]; rfl)
          have HLEN := Lib.hid (show (cK.wr x).length ≤ 600 by rw [wrK_len hok]; unfold szK; omega)
          have HEA := Lib.hid (show bs T0 ++ bs T1 ++ bs T2 = bs ((T0 ++ T1) ++ T2) by simp only [bs_app])
          rw [show (be 1 x.k.data.toList.length ++ x.k.data.toList) = T0 from hT0] at HT0
          rw [hT0] at zt0
          rw [hT1] at HT1 zt1
          rw [hT2] at zt2
          have HH := Lib.hid hT2
          have HST := Lib.hid hst
          have HRG := Lib.hid hr
          have HXL := Lib.hid hxl
          clear hr hx hst hBe hok hxl hT0 hT1 hT2
          subst hAe
          go_wp2_with (first
            | (refine wpList_load_at rfl 83 (.tmp 52) rfl b (o + i * 34) rfl (ecK x) _ HRG.out Tryz.underlying83 rfl (infoKs x) ?_)
            | (refine wpList_fresh rfl 83 (.tmp 8) (.tmp 53) rfl (ecK x).toArray _ _ rfl rfl (infoKa x) (ecK_sz x) (all_of_one (ecK_one x)) ?_; intro W hb1 hr1 hz1; have HBW := Lib.hid hb1; have HQL := Lib.hid (show wr.heap.size < W.heap.size by rw [hz1]; exact Nat.lt_succ_self _); have HRW := Lib.hid hr1; have HC0 := Lib.hid (show W.cell? ⟨wr.heap.size, 0, none⟩ = some (.string x.k) from cell_of_row _ _ 0 _ _ _ hr1); have HC1 := Lib.hid (show W.cell? ⟨wr.heap.size, 1, none⟩ = some (.int .u32 x.n) from cell_of_row _ _ 1 _ _ _ hr1); clear hr1 hz1 hb1 HRG))
          refine wp_region_S (fun w' => Below W.heap.size W w') 12 (by kernel_rfl) (by kernel_rfl) (by kernel_rfl) ((Below.refl _ _).drew) ?_
          simp only [List.take_succ_cons, List.take_zero]
          refine wpG_val (.pointer (some ⟨wr.heap.size, 0, none⟩)) rfl (by rfl) (fun w' hSw => by go_simp) ?_
          simp only [List.setIfInBounds_toArray, List.set_cons_zero, List.set_cons_succ]
          refine wpG_val (.string x.k) rfl (by rfl) (fun w' hSw => by have c := (hSw.cell (p := ⟨wr.heap.size, 0, none⟩) HQL.out).trans HC0.out; go_simp) ?_
          simp only [List.setIfInBounds_toArray, List.set_cons_zero, List.set_cons_succ]
          refine wpG_call (.string (bs T0)) 75 #[.string x.k] rfl (by rfl) (fun w' => by go_simp) (fun w' hSw => (HT0.out w').mono fun e w2 h => ⟨h.1, hSw.trans (h.2.mono hSw.size)⟩) ?_
          simp only [List.setIfInBounds_toArray, List.set_cons_zero, List.set_cons_succ]
          refine wpG_val (.pointer (some ⟨wr.heap.size, 1, none⟩)) rfl (by rfl) (fun w' hSw => by go_simp) ?_
          simp only [List.setIfInBounds_toArray, List.set_cons_zero, List.set_cons_succ]
          refine wpG_val (.int .u32 x.n) rfl (by rfl) (fun w' hSw => by have c := (hSw.cell (p := ⟨wr.heap.size, 1, none⟩) HQL.out).trans HC1.out; go_simp) ?_
          simp only [List.setIfInBounds_toArray, List.set_cons_zero, List.set_cons_succ]
          refine wpG_val (.int .u64 x.n) rfl (by rfl) (fun w' hSw => by go_simp; rw [IntKind.wrap_u64]; omega) ?_
          simp only [List.setIfInBounds_toArray, List.set_cons_zero, List.set_cons_succ]
          refine wpG_call (.string (bs T1)) 74 #[.int .u64 x.n, .int .i64 4] rfl (by rfl) (fun w' => by go_simp) (fun w' hSw => (HT1.out w').mono fun e w2 h => ⟨h.1, hSw.trans (h.2.mono hSw.size)⟩) ?_
          simp only [List.setIfInBounds_toArray, List.set_cons_zero, List.set_cons_succ]
          refine wpG_val (.string (bs T0 ++ bs T1)) rfl (by rfl) (fun w' hSw => by go_simp <;> omega) ?_
          simp only [List.setIfInBounds_toArray, List.set_cons_zero, List.set_cons_succ]
          refine wpG_val (.pointer (some ⟨wr.heap.size, 2, none⟩)) rfl (by rfl) (fun w' hSw => by go_simp) ?_
          simp only [List.setIfInBounds_toArray, List.set_cons_zero, List.set_cons_succ]
          refine wpG_val (.slice (some ⟨wr.heap.size, 2, none⟩) 32 32) rfl (by rfl) (fun w' hSw => by go_simp) ?_
          simp only [List.setIfInBounds_toArray, List.set_cons_zero, List.set_cons_succ]
          refine wpG_val (.string (bs T2)) rfl (by rfl) (fun w' hSw => by have c := conv_hash (q := wr.heap.size) (o := 2) (show T2.length = 32 by rw [← HH.out]; exact HXL.out) (rangeAt_row ((hSw.block _ HQL.out).trans HRW.out) (fun a v hv => by rw [← HH.out] at hv; unfold ecK; rw [fix_of HXL.out, List.getElem?_toArray, Nat.add_comm 2 a]; exact hv)); go_simp) ?_
          simp only [List.setIfInBounds_toArray, List.set_cons_zero, List.set_cons_succ]
          refine wpG_val (.string (bs T0 ++ bs T1 ++ bs T2)) rfl (by rfl) (fun w' hSw => by go_simp <;> omega) ?_
          simp only [List.setIfInBounds_toArray, List.set_cons_zero, List.set_cons_succ]
          refine wpG_nil ?_
          intro wS hSw
          simp only [List.drop_succ_cons, List.drop_zero]
          go_wp2_with fail
          rw [HEA.out, ← HLW.out]
          go_at_call 73
          refine (write_bd ((HST.out.1.below HBW.out).below hSw) (cK.wr x) (by have h1 := HST.out.2.2.2; have h2 := HLEN.out; omega) (Nat.le_trans HST.out.2.2.1 (Nat.le_trans HBW.out.size hSw.size))).mono ?_
          rintro e w6 ⟨rfl, hd6, hb6⟩
          have HN6 := Lib.hid (HST.out.next (HBW.out.trans (hSw.mono HBW.out.size)) hd6 hb6 HLEN.out)
          rw [← HSN.out, show 2 + nI * 600 + i * 600 + 600 = 2 + nI * 600 + (i + 1) * 600 by omega] at HN6
          clear hd6 hb6 hSw HST HBW
          go_wp2_with fail
          exact ⟨⟨i + 1, by omega, by go_num, HN6.out⟩, by simp [intOf] <;> omega⟩
        · have HEK := Lib.hid (show Wst w5 (w.heap.size + 1) (L0 ++ I.flatMap cI.wr ++ K.flatMap cK.wr) (2 + nI * 600 + nK * 600) wr by have h := Hid.out hst; rw [List.take_of_length_le (by rw [← HK.out]; omega), show i = nK by omega] at h; exact h)
          clear hst
          have m3 : wr.cell? ⟨w.heap.size, 3, none⟩ = some (.slice AV nV dV) := cell_of_row _ _ 3 _ _ _ ((HEK.out.2.1.block w.heap.size (Nat.lt_succ_self _)).trans HR5.out)
          go_wp2_with fail
          clear hlt hi
          go_loopw [71] (fun v wr => ∃ i : Nat, i ≤ nV ∧ v = .int .i64 i ∧ Hid (Wst w5 (w.heap.size + 1) (L0 ++ I.flatMap cI.wr ++ K.flatMap cK.wr ++ (V.take i).flatMap cV.wr) (2 + nI * 600 + nK * 600 + i * 600) wr)) (fun v _ => nV - (intOf v).toNat)
          case atStart => exact ⟨0, Nat.zero_le _, by go_num, by show Wst _ _ (_ ++ (V.take 0).flatMap _) (_ + 0 * 600) _; rw [List.take_zero, List.flatMap_nil, List.append_nil, Nat.zero_mul, Nat.add_zero]; exact HEK.out⟩
          case round =>
            obtain ⟨i, hi, rfl, hst⟩ := hrel
            by_cases hlt : i < nV
            · obtain ⟨x, hx⟩ : ∃ x, V[i]? = some x := ⟨_, List.getElem?_eq_getElem (by rw [← HV.out]; exact hlt)⟩
              have hok := HOV.out x (List.mem_of_getElem? hx)
              have hk1 : x.nm.size < 256 := by have h : x.nm.data.toList.length < 256 := hok.1; rw [Array.length_toList] at h; exact h
              have hk2 : x.fr.size < 256 := by have h : x.fr.data.toList.length < 256 := hok.2.1; rw [Array.length_toList] at h; exact h
              have hk3 : x.kd < 256 := hok.2.2.1
              have hk4 : x.bn < 18446744073709551616 := hok.2.2.2.1
              have hk5 : x.rt < 4294967296 := hok.2.2.2.2.1
              have hxl : x.hs.length = 32 := hok.2.2.2.2.2
              have HW := Lib.hid hst
              have hBe : Below w.heap.size w wr := HB5.out.trans ((Hid.out hst).2.1.mono (Nat.le_succ _))
              obtain ⟨b, o, hAe, hb, hr⟩ := (HLV.out.below hBe) i x hx
              have hbs : b < wr.heap.size := Nat.lt_of_lt_of_le hb hBe.size
              have HSN := Lib.hid (flat_snoc cV.wr hx (L0 ++ I.flatMap cI.wr ++ K.flatMap cK.wr))
              have HT0 := Lib.hid (fun w => text_at x.nm w (by omega))
              have zt0 : (bs (txt x.nm)).size ≤ 256 := bs_le' _ _ (by rw [txt_len]; omega)
              obtain ⟨T0, hT0⟩ : ∃ T, txt x.nm = T := ⟨_, rfl⟩
              have HT1 := Lib.hid (fun w => text_at x.fr w (by omega))
              have zt1 : (bs (txt x.fr)).size ≤ 256 := bs_le' _ _ (by rw [txt_len]; omega)
              obtain ⟨T1, hT1⟩ : ∃ T, txt x.fr = T := ⟨_, rfl⟩
              have HT2 := Lib.hid (show ∀ w, Calls Tryz.prog 74 #[.int .u64 (x.kd : Int), .int .i64 1] w fun e w' => e = .returned (.string (bs (be 1 x.kd))) ∧ Below w.heap.size w w' from fun w => number_be x.kd 1 w (by omega) (by omega) (by omega))
              have zt2 : (bs (be 1 x.kd)).size ≤ 256 := bs_le' _ _ (by rw [be_length]; omega)
              obtain ⟨T2, hT2⟩ : ∃ T, be 1 x.kd = T := ⟨_, rfl⟩
              have HT3 := Lib.hid (show ∀ w, Calls Tryz.prog 74 #[.int .u64 (x.bn : Int), .int .i64 8] w fun e w' => e = .returned (.string (bs (be 8 x.bn))) ∧ Below w.heap.size w w' from fun w => number_be x.bn 8 w (by omega) (by omega) (by omega))
              have zt3 : (bs (be 8 x.bn)).size ≤ 256 := bs_le' _ _ (by rw [be_length]; omega)
              obtain ⟨T3, hT3⟩ : ∃ T, be 8 x.bn = T := ⟨_, rfl⟩
              have HT4 := Lib.hid (show ∀ w, Calls Tryz.prog 74 #[.int .u64 (x.rt : Int), .int .i64 4] w fun e w' => e = .returned (.string (bs (be 4 x.rt))) ∧ Below w.heap.size w w' from fun w => number_be x.rt 4 w (by omega) (by omega) (by omega))
              have zt4 : (bs (be 4 x.rt)).size ≤ 256 := bs_le' _ _ (by rw [be_length]; omega)
              obtain ⟨T4, hT4⟩ : ∃ T, be 4 x.rt = T := ⟨_, rfl⟩
              have zt5 : (bs x.hs).size ≤ 256 := bs_le' _ _ (by omega)
              obtain ⟨T5, hT5⟩ : ∃ T, x.hs = T := ⟨_, rfl⟩
              have HLW := Lib.hid (show cV.wr x = (((((T0 ++ T1) ++ T2) ++ T3) ++ T4) ++ T5) by rw [← hT0, ← hT1, ← hT2, ← hT3, ← hT4, ← hT5]; simp only [List.append_assoc]; rfl)
              have HLEN := Lib.hid (show (cV.wr x).length ≤ 600 by rw [wrV_len hok]; unfold szV; omega)
              have HEA := Lib.hid (show bs T0 ++ bs T1 ++ bs T2 ++ bs T3 ++ bs T4 ++ bs T5 = bs (((((T0 ++ T1) ++ T2) ++ T3) ++ T4) ++ T5) by simp only [bs_app])
              rw [show (be 1 x.nm.data.toList.length ++ x.nm.data.toList) = T0 from hT0] at HT0
              rw [hT0] at zt0
              rw [show (be 1 x.fr.data.toList.length ++ x.fr.data.toList) = T1 from hT1] at HT1
              rw [hT1] at zt1
              rw [hT2] at HT2 zt2
              rw [hT3] at HT3 zt3
              rw [hT4] at HT4 zt4
              rw [hT5] at zt5
              have HH := Lib.hid hT5
              have HST := Lib.hid hst
              have HRG := Lib.hid hr
              have HXL := Lib.hid hxl
              clear hr hx hst hBe hok hxl hT0 hT1 hT2 hT3 hT4 hT5
              subst hAe
              go_wp2_with (first
                | (refine wpList_load_at rfl 86 (.tmp 73) rfl b (o + i * 37) rfl (ecV x) _ HRG.out Tryz.underlying86 rfl (infoVs x) ?_)
                | (refine wpList_fresh rfl 86 (.tmp 10) (.tmp 74) rfl (ecV x).toArray _ _ rfl rfl (infoVa x) (ecV_sz x) (all_of_one (ecV_one x)) ?_; intro W hb1 hr1 hz1; have HBW := Lib.hid hb1; have HQL := Lib.hid (show wr.heap.size < W.heap.size by rw [hz1]; exact Nat.lt_succ_self _); have HRW := Lib.hid hr1; have HC0 := Lib.hid (show W.cell? ⟨wr.heap.size, 0, none⟩ = some (.string x.nm) from cell_of_row _ _ 0 _ _ _ hr1); have HC1 := Lib.hid (show W.cell? ⟨wr.heap.size, 2, none⟩ = some (.string x.fr) from cell_of_row _ _ 2 _ _ _ hr1); have HC2 := Lib.hid (show W.cell? ⟨wr.heap.size, 1, none⟩ = some (.int .u8 x.kd) from cell_of_row _ _ 1 _ _ _ hr1); have HC3 := Lib.hid (show W.cell? ⟨wr.heap.size, 3, none⟩ = some (.int .u64 x.bn) from cell_of_row _ _ 3 _ _ _ hr1); have HC4 := Lib.hid (show W.cell? ⟨wr.heap.size, 4, none⟩ = some (.int .u32 x.rt) from cell_of_row _ _ 4 _ _ _ hr1); clear hr1 hz1 hb1 HRG))
              refine wp_region_S (fun w' => Below W.heap.size W w') 25 (by kernel_rfl) (by kernel_rfl) (by kernel_rfl) ((Below.refl _ _).drew) ?_
              simp only [List.take_succ_cons, List.take_zero]
              refine wpG_val (.pointer (some ⟨wr.heap.size, 0, none⟩)) rfl (by rfl) (fun w' hSw => by go_simp) ?_
              simp only [List.setIfInBounds_toArray, List.set_cons_zero, List.set_cons_succ]
              refine wpG_val (.string x.nm) rfl (by rfl) (fun w' hSw => by have c := (hSw.cell (p := ⟨wr.heap.size, 0, none⟩) HQL.out).trans HC0.out; go_simp) ?_
              simp only [List.setIfInBounds_toArray, List.set_cons_zero, List.set_cons_succ]
              refine wpG_call (.string (bs T0)) 75 #[.string x.nm] rfl (by rfl) (fun w' => by go_simp) (fun w' hSw => (HT0.out w').mono fun e w2 h => ⟨h.1, hSw.trans (h.2.mono hSw.size)⟩) ?_
              simp only [List.setIfInBounds_toArray, List.set_cons_zero, List.set_cons_succ]
              refine wpG_val (.pointer (some ⟨wr.heap.size, 2, none⟩)) rfl (by rfl) (fun w' hSw => by go_simp) ?_
              simp only [List.setIfInBounds_toArray, List.set_cons_zero, List.set_cons_succ]
              refine wpG_val (.string x.fr) rfl (by rfl) (fun w' hSw => by have c := (hSw.cell (p := ⟨wr.heap.size, 2, none⟩) HQL.out).trans HC1.out; go_simp) ?_
              simp only [List.setIfInBounds_toArray, List.set_cons_zero, List.set_cons_succ]
              refine wpG_call (.string (bs T1)) 75 #[.string x.fr] rfl (by rfl) (fun w' => by go_simp) (fun w' hSw => (HT1.out w').mono fun e w2 h => ⟨h.1, hSw.trans (h.2.mono hSw.size)⟩) ?_
              simp only [List.setIfInBounds_toArray, List.set_cons_zero, List.set_cons_succ]
              refine wpG_val (.string (bs T0 ++ bs T1)) rfl (by rfl) (fun w' hSw => by go_simp <;> omega) ?_
              simp only [List.setIfInBounds_toArray, List.set_cons_zero, List.set_cons_succ]
              refine wpG_val (.pointer (some ⟨wr.heap.size, 1, none⟩)) rfl (by rfl) (fun w' hSw => by go_simp) ?_
              simp only [List.setIfInBounds_toArray, List.set_cons_zero, List.set_cons_succ]
              refine wpG_val (.int .u8 x.kd) rfl (by rfl) (fun w' hSw => by have c := (hSw.cell (p := ⟨wr.heap.size, 1, none⟩) HQL.out).trans HC2.out; go_simp) ?_
              simp only [List.setIfInBounds_toArray, List.set_cons_zero, List.set_cons_succ]
              refine wpG_val (.int .u64 x.kd) rfl (by rfl) (fun w' hSw => by go_simp; rw [IntKind.wrap_u64]; omega) ?_
              simp only [List.setIfInBounds_toArray, List.set_cons_zero, List.set_cons_succ]
              refine wpG_call (.string (bs T2)) 74 #[.int .u64 x.kd, .int .i64 1] rfl (by rfl) (fun w' => by go_simp) (fun w' hSw => (HT2.out w').mono fun e w2 h => ⟨h.1, hSw.trans (h.2.mono hSw.size)⟩) ?_
              simp only [List.setIfInBounds_toArray, List.set_cons_zero, List.set_cons_succ]
              refine wpG_val (.string (bs T0 ++ bs T1 ++ bs T2)) rfl (by rfl) (fun w' hSw => by go_simp <;> omega) ?_
              simp only [List.setIfInBounds_toArray, List.set_cons_zero, List.set_cons_succ]
              refine wpG_val (.pointer (some ⟨wr.heap.size, 3, none⟩)) rfl (by rfl) (fun w' hSw => by go_simp) ?_
              simp only [List.setIfInBounds_toArray, List.set_cons_zero, List.set_cons_succ]
              refine wpG_val (.int .u64 x.bn) rfl (by rfl) (fun w' hSw => by have c := (hSw.cell (p := ⟨wr.heap.size, 3, none⟩) HQL.out).trans HC3.out; go_simp) ?_
              simp only [List.setIfInBounds_toArray, List.set_cons_zero, List.set_cons_succ]
              refine wpG_call (.string (bs T3)) 74 #[.int .u64 x.bn, .int .i64 8] rfl (by rfl) (fun w' => by go_simp) (fun w' hSw => (HT3.out w').mono fun e w2 h => ⟨h.1, hSw.trans (h.2.mono hSw.size)⟩) ?_
              simp only [List.setIfInBounds_toArray, List.set_cons_zero, List.set_cons_succ]
              refine wpG_val (.string (bs T0 ++ bs T1 ++ bs T2 ++ bs T3)) rfl (by rfl) (fun w' hSw => by go_simp <;> omega) ?_
              simp only [List.setIfInBounds_toArray, List.set_cons_zero, List.set_cons_succ]
              refine wpG_val (.pointer (some ⟨wr.heap.size, 4, none⟩)) rfl (by rfl) (fun w' hSw => by go_simp) ?_
              simp only [List.setIfInBounds_toArray, List.set_cons_zero, List.set_cons_succ]
              refine wpG_val (.int .u32 x.rt) rfl (by rfl) (fun w' hSw => by have c := (hSw.cell (p := ⟨wr.heap.size, 4, none⟩) HQL.out).trans HC4.out; go_simp) ?_
              simp only [List.setIfInBounds_toArray, List.set_cons_zero, List.set_cons_succ]
              refine wpG_val (.int .u64 x.rt) rfl (by rfl) (fun w' hSw => by go_simp; rw [IntKind.wrap_u64]; omega) ?_
              simp only [List.setIfInBounds_toArray, List.set_cons_zero, List.set_cons_succ]
              refine wpG_call (.string (bs T4)) 74 #[.int .u64 x.rt, .int .i64 4] rfl (by rfl) (fun w' => by go_simp) (fun w' hSw => (HT4.out w').mono fun e w2 h => ⟨h.1, hSw.trans (h.2.mono hSw.size)⟩) ?_
              simp only [List.setIfInBounds_toArray, List.set_cons_zero, List.set_cons_succ]
              refine wpG_val (.string (bs T0 ++ bs T1 ++ bs T2 ++ bs T3 ++ bs T4)) rfl (by rfl) (fun w' hSw => by go_simp <;> omega) ?_
              simp only [List.setIfInBounds_toArray, List.set_cons_zero, List.set_cons_succ]
              refine wpG_val (.pointer (some ⟨wr.heap.size, 5, none⟩)) rfl (by rfl) (fun w' hSw => by go_simp) ?_
              simp only [List.setIfInBounds_toArray, List.set_cons_zero, List.set_cons_succ]
              refine wpG_val (.slice (some ⟨wr.heap.size, 5, none⟩) 32 32) rfl (by rfl) (fun w' hSw => by go_simp) ?_
              simp only [List.setIfInBounds_toArray, List.set_cons_zero, List.set_cons_succ]
              refine wpG_val (.string (bs T5)) rfl (by rfl) (fun w' hSw => by have c := conv_hash (q := wr.heap.size) (o := 5) (show T5.length = 32 by rw [← HH.out]; exact HXL.out) (rangeAt_row ((hSw.block _ HQL.out).trans HRW.out) (fun a v hv => by rw [← HH.out] at hv; unfold ecV; rw [fix_of HXL.out, List.getElem?_toArray, Nat.add_comm 5 a]; exact hv)); go_simp) ?_
              simp only [List.setIfInBounds_toArray, List.set_cons_zero, List.set_cons_succ]
              refine wpG_val (.string (bs T0 ++ bs T1 ++ bs T2 ++ bs T3 ++ bs T4 ++ bs T5)) rfl (by rfl) (fun w' hSw => by go_simp <;> omega) ?_
              simp only [List.setIfInBounds_toArray, List.set_cons_zero, List.set_cons_succ]
              refine wpG_nil ?_
              intro wS hSw
              simp only [List.drop_succ_cons, List.drop_zero]
              go_wp2_with fail
              rw [HEA.out, ← HLW.out]
              go_at_call 73
              refine (write_bd ((HST.out.1.below HBW.out).below hSw) (cV.wr x) (by have h1 := HST.out.2.2.2; have h2 := HLEN.out; omega) (Nat.le_trans HST.out.2.2.1 (Nat.le_trans HBW.out.size hSw.size))).mono ?_
              rintro e w6 ⟨rfl, hd6, hb6⟩
              have HN6 := Lib.hid (HST.out.next (HBW.out.trans (hSw.mono HBW.out.size)) hd6 hb6 HLEN.out)
              rw [← HSN.out, show 2 + nI * 600 + nK * 600 + i * 600 + 600 = 2 + nI * 600 + nK * 600 + (i + 1) * 600 by omega] at HN6
              clear hd6 hb6 hSw HST HBW
              go_wp2_with fail
              exact ⟨⟨i + 1, by omega, by go_num, HN6.out⟩, by simp [intOf] <;> omega⟩
            · have HEV := Lib.hid (show Wst w5 (w.heap.size + 1) (L0 ++ I.flatMap cI.wr ++ K.flatMap cK.wr ++ V.flatMap cV.wr) (2 + nI * 600 + nK * 600 + nV * 600) wr by have h := Hid.out hst; rw [List.take_of_length_le (by rw [← HV.out]; omega), show i = nV by omega] at h; exact h)
              clear hst
              have HSB := Lib.hid (string_bd HEV.out.1 HEV.out.2.2.1)
              rw [← HWN.out] at HSB
              go_wp2_with fail
              go_at_call 76
              refine HSB.out.mono ?_
              rintro e w9 ⟨rfl, hb9⟩
              have HB9 := Lib.hid (HB5.out.trans ((HEV.out.2.1.trans hb9).mono (Nat.le_succ _)))
              clear hb9
              go_wp2_with fail
              go_ret
              exact ⟨rfl, HB9.out⟩
end Go.Proofs.YtlchjohaacbkpaaGreatDoor.Nd
