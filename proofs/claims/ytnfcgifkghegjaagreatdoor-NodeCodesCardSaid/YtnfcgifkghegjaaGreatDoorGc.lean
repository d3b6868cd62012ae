/- The document's own text and Bytes of nodes. -/
import Derived.Test.YtnfcgifkghegjaaGreatDoorNdS
import Derived.Test.YtnfcgifkghegjaaGreatDoorNfG
import Derived.Test.YtnfcgifkghegjaaGreatDoorSuA
import Derived.Test.YtnfcgifkghegjaaGreatDoorNdC
import Derived.Test.YtnfcgifkghegjaaGreatDoorRgS
import Derived.Test.YtnfcgifkghegjaaGreatDoorNdP
import Derived.Test.YtnfcgifkghegjaaGreatDoorGb
namespace Go.Proofs.YtnfcgifkghegjaaGreatDoor.Nr
set_option linter.unusedVariables false
set_option linter.unusedSimpArgs false
open Go.ChangeShapes Go.WideShapes Go.ChangeAt Go.RowKit
open Nd Ar Rg
open BigFrame
open Pk (be num be_length u8s u8s_length)
/-- a text's bytes -/
def tx (s : ByteArray) : ByteArray := bs (be 1 s.size ++ s.data.toList)
theorem tx_eq (s : ByteArray) : bs (be 1 s.size) ++ s = tx s := by
  unfold tx
  rw [← bs_app, data_bs]
theorem tx_size (s : ByteArray) : (tx s).size = s.size + 1 := by
  unfold tx
  rw [bs_size, List.length_append, be_length, Array.length_toList]
  show 1 + s.size = _
  omega
theorem rtext_any (s : ByteArray) (h : s.size ≤ 1000000) (w : World) :
    Calls Tryz.prog 39 #[.string s] w fun e w' => e = .returned (.string (tx s)) ∧ Below w.heap.size w w' := by
  have HB := Lib.hid (show ∀ w, Calls Tryz.prog 37 #[.int .u64 (s.size : Nat), .int .i64 1] w fun e w' => e = .returned (.string (bs (be 1 s.size))) ∧ Below w.heap.size w w' from fun w => Pk.ref_bytes s.size 1 w (by omega) (by omega))
  have hu : IntKind.u64.wrap (s.size : Int) = s.size := by simp [IntKind.wrap, IntKind.bits, IntKind.signed]; omega
  have hz : (bs (be 1 s.size)).size = 1 := by rw [bs_size, be_length]
  have HE := Lib.hid (tx_eq s)
  generalize bs (be 1 s.size) = S1 at *
  generalize tx s = R at *
  go_enter Tryz.func39, Tryz.ntmps39
  go_wp2_with fail
  refine (HB.out _).mono ?_
  rintro e w1 ⟨rfl, hb⟩
  have HB1 := Lib.hid hb
  clear hb HB
  have he := HE.out
  go_wp2
  go_ret
  exact ⟨rfl, HB1.out⟩
theorem fm_take {α : Type} (f : α → List UInt8) (l : List α) (i : Nat) : ((l.take i).flatMap f).length ≤ (l.flatMap f).length := by
  conv => rhs; rw [← List.take_append_drop i l, List.flatMap_append, List.length_append]
  omega
theorem fm_snoc {α : Type} (f : α → List UInt8) {l : List α} {i : Nat} {x : α} (h : l[i]? = some x) : (l.take (i + 1)).flatMap f = (l.take i).flatMap f ++ f x := by
  rw [List.take_add_one, h]
  simp
theorem tx_bs (s : ByteArray) : tx s = bs (be 1 s.data.toList.length ++ s.data.toList) := by unfold tx; rw [Array.length_toList]; rfl
theorem wrI_tx (x : It.Itm) : tx x.k ++ tx x.v = bs (Nd.cI.wr x) := by rw [tx_bs, tx_bs, bs_app]; rfl
theorem wrK_tx (x : Kd) : (tx x.k ++ bs (be 4 x.n)) ++ bs x.hs = bs (Nd.cK.wr x) := by rw [tx_bs, bs_app, bs_app, List.append_assoc]; rfl
theorem wrV_tx (x : Vo) : ((((tx x.nm ++ tx x.fr) ++ bs (be 1 x.kd)) ++ bs (be 8 x.bn)) ++ bs (be 4 x.rt)) ++ bs x.hs = bs (Nd.cV.wr x) := by
  rw [tx_bs, tx_bs, bs_app, bs_app, bs_app, bs_app, bs_app]
  show bs _ = bs ((_ ++ _) ++ ((_ ++ _) ++ (_ ++ (_ ++ (_ ++ _)))))
  simp only [List.append_assoc]
  rfl
end Go.Proofs.YtnfcgifkghegjaaGreatDoor.Nr
/- The document's own Bytes of nodes: the walk. -/
namespace Go.Proofs.YtnfcgifkghegjaaGreatDoor.Nr
set_option linter.unusedVariables false
set_option linter.unusedSimpArgs false
open Go.ChangeShapes Go.WideShapes Go.ChangeAt Go.RowKit
open Nd Ar Rg
open BigFrame
open Pk (be num be_length u8s u8s_length)
theorem u64_same {n : Nat} (h : n < 18446744073709551616) : IntKind.u64.wrap (n : Int) = n := by simp [IntKind.wrap, IntKind.bits, IntKind.signed]; omega
set_option maxRecDepth 100000 in
set_option maxHeartbeats 8000000 in
theorem rbytes_any (n : Nd) (hw : Wd n) (hk8 : n.kd < 256) (hl : (wN n).length ≤ 100000) (hIx : ∀ x ∈ n.I, x.k.size ≤ 1000 ∧ x.v.size ≤ 1000) (hKx : ∀ x ∈ n.K, x.k.size ≤ 1000) (hVx : ∀ x ∈ n.V, x.nm.size ≤ 1000 ∧ x.fr.size ≤ 1000) (cs : Array Value) (w : World) (hn : NdAt w cs n) :
    Calls Tryz.prog 19 #[.agg cs] w fun e w' => e = .returned (.string (bs (wN n))) ∧ Below w.heap.size w w' := by
  obtain ⟨AI, nI, cI, AK, nK, cK, AV, nV, cV, rfl, hI, hK, hV, bI, bK, bV, lI, lK, lV⟩ := hn
  obtain ⟨kd, I, K, V⟩ := n
  dsimp only at hI hK hV lI lK lV hIx hKx hVx hk8
  have hw0 : wN ⟨kd, I, K, V⟩ = be 1 kd ++ (be 1 (nI + nK + nV) ++ (I.flatMap Nd.cI.wr ++ (K.flatMap Nd.cK.wr ++ V.flatMap Nd.cV.wr))) := by unfold wN; rw [hI, hK, hV]
  have HW := Lib.hid hw0
  have HLW := Lib.hid hl
  obtain ⟨N, hN⟩ : ∃ N, nI + nK + nV = N := ⟨_, rfl⟩
  have U1 := Lib.hid (u64_same (n := kd) (by omega))
  have U2 := Lib.hid (u64_same (n := N) (by omega))
  have U3 := Lib.hid (IntWalk.i64_in ((nI : Int) + (nK : Int)) ⟨by omega, by omega⟩)
  have U4 := Lib.hid (by rw [show (nI : Int) + (nK : Int) + (nV : Int) = (N : Int) by omega]; exact IntWalk.i64_in _ ⟨by omega, by omega⟩ : IntKind.i64.wrap ((nI : Int) + (nK : Int) + (nV : Int)) = (N : Int))
  have B1 := Lib.hid (show ∀ w, Calls Tryz.prog 37 #[.int .u64 (kd : Nat), .int .i64 1] w fun e w' => e = .returned (.string (bs (be 1 kd))) ∧ Below w.heap.size w w' from fun w => Pk.ref_bytes kd 1 w (by omega) (by omega))
  have B2 := Lib.hid (show ∀ w, Calls Tryz.prog 37 #[.int .u64 (N : Nat), .int .i64 1] w fun e w' => e = .returned (.string (bs (be 1 N))) ∧ Below w.heap.size w w' from fun w => Pk.ref_bytes N 1 w (by omega) (by omega))
  obtain ⟨HD, hHD⟩ : ∃ HD, be 1 kd ++ be 1 N = HD := ⟨_, rfl⟩
  have E3 := Lib.hid (show bs (be 1 kd) ++ bs (be 1 N) = bs HD by rw [bs_app, hHD])
  have HWN := Lib.hid (show wN ⟨kd, I, K, V⟩ = HD ++ (I.flatMap Nd.cI.wr ++ (K.flatMap Nd.cK.wr ++ V.flatMap Nd.cV.wr)) by rw [hw0, hN, ← hHD, List.append_assoc])
  have z1 : (bs (be 1 kd)).size = 1 := by rw [bs_size, be_length]
  have z2 : (bs (be 1 N)).size = 1 := by rw [bs_size, be_length]
  have HR0 := Lib.hid (heap_alloc_new w (.cells #[.int .u8 (kd : Int), .slice AI nI cI, .slice AK nK cK, .slice AV nV cV] 27))
  have HB0 := Lib.hid (show Below w.heap.size w (w.alloc (.cells #[.int .u8 (kd : Int), .slice AI nI cI, .slice AK nK cK, .slice AV nV cV] 27)) from (Below.refl _ _).alloc (Nat.le_refl _) _)
  have HI := Lib.hid hI
  have HK := Lib.hid hK
  have HV := Lib.hid hV
  have LI := Lib.hid lI
  have LK := Lib.hid lK
  have LV := Lib.hid lV
  have IX := Lib.hid hIx
  have KX := Lib.hid hKx
  have VX := Lib.hid hVx
  have WD := Lib.hid hw
  generalize bs (be 1 kd) = S1 at *
  generalize bs (be 1 N) = S2 at *
  obtain ⟨S3, hS3⟩ : ∃ S3, bs HD = S3 := ⟨_, rfl⟩
  rw [hS3] at E3
  have HS3 := Lib.hid hS3
  clear hI hK hV lI lK lV hIx hKx hVx hw hw0 hl hN hHD hS3 hk8 HW
  go_enter Tryz.func19, Tryz.ntmps19
  go_wp2_with fail
  generalize w.alloc _ = w0 at *
  have k0 := row_lt HR0.out
  have c0 : w0.cell? ⟨w.heap.size, 0, none⟩ = some (.int .u8 (kd : Int)) := cell_of_row _ _ 0 _ _ _ HR0.out
  have c1 : w0.cell? ⟨w.heap.size, 1, none⟩ = some (.slice AI nI cI) := cell_of_row _ _ 1 _ _ _ HR0.out
  have c2 : w0.cell? ⟨w.heap.size, 2, none⟩ = some (.slice AK nK cK) := cell_of_row _ _ 2 _ _ _ HR0.out
  have c3 : w0.cell? ⟨w.heap.size, 3, none⟩ = some (.slice AV nV cV) := cell_of_row _ _ 3 _ _ _ HR0.out
  refine wp_region_G (fun w' => Below w0.heap.size w0 w') (by kernel_rfl) (by kernel_rfl) (Below.refl _ _).drew ?_
  refine wpG_val (.pointer (some ⟨w.heap.size, 0, none⟩)) rfl (by rfl) (fun w' hSw => by go_simp) ?_
  simp only [List.setIfInBounds_toArray, List.set_cons_zero, List.set_cons_succ]
  refine wpG_val (.int .u8 (kd : Int)) rfl (by rfl) (fun w' hSw => by have c := (Below.cell hSw (p := ⟨w.heap.size, 0, none⟩) k0).trans c0; go_simp) ?_
  simp only [List.setIfInBounds_toArray, List.set_cons_zero, List.set_cons_succ]
  refine wpG_val (.int .u64 (kd : Int)) rfl (by rfl) (fun w' hSw => by have h := U1.out; go_simp) ?_
  simp only [List.setIfInBounds_toArray, List.set_cons_zero, List.set_cons_succ]
  refine wpG_call (.string S1) 37 #[.int .u64 (kd : Int), .int .i64 1] rfl (by rfl) (fun w' => by go_simp) (fun w' hSw => (B1.out w').mono fun e w2 h => ⟨h.1, hSw.trans (h.2.mono hSw.size)⟩) ?_
  simp only [List.setIfInBounds_toArray, List.set_cons_zero, List.set_cons_succ]
  refine wpG_val (.pointer (some ⟨w.heap.size, 1, none⟩)) rfl (by rfl) (fun w' hSw => by go_simp) ?_
  simp only [List.setIfInBounds_toArray, List.set_cons_zero, List.set_cons_succ]
  refine wpG_val (.slice AI nI cI) rfl (by rfl) (fun w' hSw => by have c := (Below.cell hSw (p := ⟨w.heap.size, 1, none⟩) k0).trans c1; go_simp) ?_
  simp only [List.setIfInBounds_toArray, List.set_cons_zero, List.set_cons_succ]
  refine wpG_val (.int .i64 (nI : Int)) rfl (by rfl) (fun w' hSw => by go_simp) ?_
  simp only [List.setIfInBounds_toArray, List.set_cons_zero, List.set_cons_succ]
  refine wpG_val (.pointer (some ⟨w.heap.size, 2, none⟩)) rfl (by rfl) (fun w' hSw => by go_simp) ?_
  simp only [List.setIfInBounds_toArray, List.set_cons_zero, List.set_cons_succ]
  refine wpG_val (.slice AK nK cK) rfl (by rfl) (fun w' hSw => by have c := (Below.cell hSw (p := ⟨w.heap.size, 2, none⟩) k0).trans c2; go_simp) ?_
  simp only [List.setIfInBounds_toArray, List.set_cons_zero, List.set_cons_succ]
  refine wpG_val (.int .i64 (nK : Int)) rfl (by rfl) (fun w' hSw => by go_simp) ?_
  simp only [List.setIfInBounds_toArray, List.set_cons_zero, List.set_cons_succ]
  refine wpG_val (.int .i64 ((nI : Int) + (nK : Int))) rfl (by rfl) (fun w' hSw => by have h := U3.out; go_simp) ?_
  simp only [List.setIfInBounds_toArray, List.set_cons_zero, List.set_cons_succ]
  refine wpG_val (.pointer (some ⟨w.heap.size, 3, none⟩)) rfl (by rfl) (fun w' hSw => by go_simp) ?_
  simp only [List.setIfInBounds_toArray, List.set_cons_zero, List.set_cons_succ]
  refine wpG_val (.slice AV nV cV) rfl (by rfl) (fun w' hSw => by have c := (Below.cell hSw (p := ⟨w.heap.size, 3, none⟩) k0).trans c3; go_simp) ?_
  simp only [List.setIfInBounds_toArray, List.set_cons_zero, List.set_cons_succ]
  refine wpG_val (.int .i64 (nV : Int)) rfl (by rfl) (fun w' hSw => by go_simp) ?_
  simp only [List.setIfInBounds_toArray, List.set_cons_zero, List.set_cons_succ]
  refine wpG_val (.int .i64 (N : Int)) rfl (by rfl) (fun w' hSw => by have h := U4.out; go_simp) ?_
  simp only [List.setIfInBounds_toArray, List.set_cons_zero, List.set_cons_succ]
  refine wpG_val (.int .u64 (N : Int)) rfl (by rfl) (fun w' hSw => by have h := U2.out; go_simp) ?_
  simp only [List.setIfInBounds_toArray, List.set_cons_zero, List.set_cons_succ]
  refine wpG_call (.string S2) 37 #[.int .u64 (N : Int), .int .i64 1] rfl (by rfl) (fun w' => by go_simp) (fun w' hSw => (B2.out w').mono fun e w2 h => ⟨h.1, hSw.trans (h.2.mono hSw.size)⟩) ?_
  simp only [List.setIfInBounds_toArray, List.set_cons_zero, List.set_cons_succ]
  refine wpG_val (.string S3) rfl (by rfl) (fun w' hSw => by have h := E3.out; go_simp) ?_
  simp only [List.setIfInBounds_toArray, List.set_cons_zero, List.set_cons_succ]
  refine wpG_val (.string S3) rfl (by rfl) (fun w' hSw => by go_simp) ?_
  simp only [List.setIfInBounds_toArray, List.set_cons_zero, List.set_cons_succ]
  refine wpG_nil ?_
  intro w1 hSw
  have HR1 := Lib.hid ((hSw.block _ k0).trans HR0.out)
  have HB1 := Lib.hid (HB0.out.trans (hSw.mono HB0.out.size))
  have d1 : w1.cell? ⟨w.heap.size, 1, none⟩ = some (.slice AI nI cI) := cell_of_row _ _ 1 _ _ _ HR1.out
  clear hSw c0 c1 c2 c3 k0 HR0 HB0
  go_wp2_with fail
  clear d1
  go_loopw [3, 31] (fun t v wr => ∃ i : Nat, i ≤ nI ∧ v = .int .i64 i ∧ t = .string (bs (HD ++ (I.take i).flatMap Nd.cI.wr)) ∧ Hid (Below w1.heap.size w1 wr)) (fun _ v _ => nI - (intOf v).toNat)
  case atStart => exact ⟨0, Nat.zero_le _, by go_num, by rw [← HS3.out]; simp, Below.refl _ _⟩
  case round =>
    obtain ⟨i, hi, rfl, rfl, hbel⟩ := hrel
    by_cases hlt : i < nI
    · obtain ⟨x, hx⟩ : ∃ x, I[i]? = some x := ⟨_, List.getElem?_eq_getElem (by rw [← HI.out]; exact hlt)⟩
      obtain ⟨xk, xv⟩ := IX.out x (List.mem_of_getElem? hx)
      have T1 := Lib.hid (fun w => rtext_any x.k (by omega) w)
      have T2 := Lib.hid (fun w => rtext_any x.v (by omega) w)
      obtain ⟨b, o, hAe, hb, hr⟩ := (LI.out.below (HB1.out.trans ((Hid.out hbel).mono HB1.out.size))) i x hx
      have hbs : b < wr.heap.size := Nat.lt_of_lt_of_le hb (Nat.le_trans HB1.out.size (Hid.out hbel).size)
      have hc0 : wr.cell? ⟨b, o + i * 2, none⟩ = some (.string x.k) := hr 0 _ rfl
      have hc1 : wr.cell? ⟨b, o + i * 2 + 1, none⟩ = some (.string x.v) := hr 1 _ rfl
      subst hAe
      have HBN := Lib.hid (show Below w1.heap.size w1 (wr.alloc (.cells #[.string x.k, .string x.v] 61)) from (Hid.out hbel).alloc (Hid.out hbel).size _)
      have hcx : (wr.alloc (.cells #[.string x.k, .string x.v] 61)).cell? ⟨wr.heap.size, 0, none⟩ = some (.string x.k) := by simp
      have hcv : (wr.alloc (.cells #[.string x.k, .string x.v] 61)).cell? ⟨wr.heap.size, 1, none⟩ = some (.string x.v) := by simp
      have kg : wr.heap.size < (wr.alloc (.cells #[.string x.k, .string x.v] 61)).heap.size := by simp
      have hsz : (bs (HD ++ (I.take i).flatMap Nd.cI.wr)).size ≤ 100000 := by
        rw [bs_size]
        have h1 := HLW.out
        rw [HWN.out] at h1
        simp only [List.length_append] at h1 ⊢
        have := fm_take Nd.cI.wr I i
        omega
      have y1 := tx_size x.k
      have y2 := tx_size x.v
      obtain ⟨X3, hX3⟩ : ∃ X3, tx x.k ++ tx x.v = X3 := ⟨_, rfl⟩
      obtain ⟨X4, hX4⟩ : ∃ X4, bs (HD ++ (I.take i).flatMap Nd.cI.wr) ++ X3 = X4 := ⟨_, rfl⟩
      have HE4 := Lib.hid (show X4 = bs (HD ++ (I.take (i + 1)).flatMap Nd.cI.wr) by rw [← hX4, ← hX3, wrI_tx, bs_app, fm_snoc _ hx, List.append_assoc])
      have y3 : X3.size ≤ 3000 := by rw [← hX3, ByteArray.size_append]; omega
      have E1 := Lib.hid hX3
      have E2 := Lib.hid hX4
      have y1' : (tx x.k).size ≤ 1001 := by omega
      have y2' : (tx x.v).size ≤ 1001 := by omega
      clear hr hx hX3 hX4 y1 y2
      generalize bs (HD ++ (I.take i).flatMap Nd.cI.wr) = S at *
      generalize tx x.k = X1 at *
      generalize tx x.v = X2 at *
      go_wp2_with fail
      clear hc0 hc1 hbs hb
      generalize wr.alloc _ = W5 at *
      generalize wr.heap.size = g at *
      refine wp_region_G (fun w' => Below W5.heap.size W5 w') (by kernel_rfl) (by kernel_rfl) (Below.refl _ _).drew ?_
      refine wpG_val (.string S) rfl (by rfl) (fun w' hSw => by go_simp) ?_
      simp only [List.setIfInBounds_toArray, List.set_cons_zero, List.set_cons_succ]
      refine wpG_val (.pointer (some ⟨g, 0, none⟩)) rfl (by rfl) (fun w' hSw => by go_simp) ?_
      simp only [List.setIfInBounds_toArray, List.set_cons_zero, List.set_cons_succ]
      refine wpG_val (.string x.k) rfl (by rfl) (fun w' hSw => by have c := (Below.cell hSw (p := ⟨g, 0, none⟩) kg).trans hcx; go_simp) ?_
      simp only [List.setIfInBounds_toArray, List.set_cons_zero, List.set_cons_succ]
      refine wpG_call (.string X1) 39 #[.string x.k] rfl (by rfl) (fun w' => by go_simp) (fun w' hSw => (T1.out w').mono fun e w2 h => ⟨h.1, hSw.trans (h.2.mono hSw.size)⟩) ?_
      simp only [List.setIfInBounds_toArray, List.set_cons_zero, List.set_cons_succ]
      refine wpG_val (.pointer (some ⟨g, 1, none⟩)) rfl (by rfl) (fun w' hSw => by go_simp) ?_
      simp only [List.setIfInBounds_toArray, List.set_cons_zero, List.set_cons_succ]
      refine wpG_val (.string x.v) rfl (by rfl) (fun w' hSw => by have c := (Below.cell hSw (p := ⟨g, 1, none⟩) kg).trans hcv; go_simp) ?_
      simp only [List.setIfInBounds_toArray, List.set_cons_zero, List.set_cons_succ]
      refine wpG_call (.string X2) 39 #[.string x.v] rfl (by rfl) (fun w' => by go_simp) (fun w' hSw => (T2.out w').mono fun e w2 h => ⟨h.1, hSw.trans (h.2.mono hSw.size)⟩) ?_
      simp only [List.setIfInBounds_toArray, List.set_cons_zero, List.set_cons_succ]
      refine wpG_val (.string X3) rfl (by rfl) (fun w' hSw => by have h := E1.out; go_simp <;> omega) ?_
      simp only [List.setIfInBounds_toArray, List.set_cons_zero, List.set_cons_succ]
      refine wpG_val (.string X4) rfl (by rfl) (fun w' hSw => by have h := E2.out; go_simp <;> omega) ?_
      simp only [List.setIfInBounds_toArray, List.set_cons_zero, List.set_cons_succ]
      refine wpG_val (.string X4) rfl (by rfl) (fun w' hSw => by go_simp) ?_
      simp only [List.setIfInBounds_toArray, List.set_cons_zero, List.set_cons_succ]
      refine wpG_nil ?_
      intro w6 hSw6
      have HB6 := Lib.hid (HBN.out.trans (hSw6.mono HBN.out.size))
      clear hSw6 hcx hcv kg HBN hbel
      go_wp2
      exact ⟨⟨i + 1, by omega, by go_num, by rw [HE4.out], HB6.out⟩, by simp [intOf] <;> omega⟩
    · skip
      have hin : i = nI := by omega
      have HTK := Lib.hid (show I.take i = I from List.take_of_length_le (by have := HI.out; omega))
      obtain ⟨w2, rfl⟩ : ∃ w2, w2 = wr := ⟨_, rfl⟩
      have HB2 := Lib.hid (HB1.out.trans ((Hid.out hbel).mono HB1.out.size))
      have HR2 := Lib.hid (((Hid.out hbel).block _ (row_lt HR1.out)).trans HR1.out)
      rw [HTK.out]
      obtain ⟨HD2, hHDn⟩ : ∃ H, HD ++ I.flatMap Nd.cI.wr = H := ⟨_, rfl⟩
      rw [hHDn]
      have EHD2 := Lib.hid hHDn
      clear hin hHDn hi hbel HTK
      have d2 : w2.cell? ⟨w.heap.size, 2, none⟩ = some (.slice AK nK cK) := cell_of_row _ _ 2 _ _ _ HR2.out
      go_wp2_with fail
      clear d2 hlt
      go_loopw [3, 48] (fun t v wr => ∃ i : Nat, i ≤ nK ∧ v = .int .i64 i ∧ t = .string (bs (HD2 ++ (K.take i).flatMap Nd.cK.wr)) ∧ Hid (Below w2.heap.size w2 wr)) (fun _ v _ => nK - (intOf v).toNat)
      case atStart => exact ⟨0, Nat.zero_le _, by go_num, by simp, Below.refl _ _⟩
      case round =>
        obtain ⟨i, hi, rfl, rfl, hbel⟩ := hrel
        by_cases hlt : i < nK
        · obtain ⟨x, hx⟩ : ∃ x, K[i]? = some x := ⟨_, List.getElem?_eq_getElem (by rw [← HK.out]; exact hlt)⟩
          have xk := KX.out x (List.mem_of_getElem? hx)
          obtain ⟨xn, xh⟩ := WD.out.K x (List.mem_of_getElem? hx)
          have xn' : x.n < 4294967296 := xn
          have T1 := Lib.hid (fun w => rtext_any x.k (by omega) w)
          have T2 := Lib.hid (show ∀ w, Calls Tryz.prog 37 #[.int .u64 (x.n : Nat), .int .i64 4] w fun e w' => e = .returned (.string (bs (be 4 x.n))) ∧ Below w.heap.size w w' from fun w => Pk.ref_bytes x.n 4 w (by omega) (by omega))
          have UX := Lib.hid (u64_same (n := x.n) (by omega))
          obtain ⟨b, o, hAe, hb, hr⟩ := (LK.out.below (HB2.out.trans ((Hid.out hbel).mono HB2.out.size))) i x hx
          have hbs : b < wr.heap.size := Nat.lt_of_lt_of_le hb (Nat.le_trans HB2.out.size (Hid.out hbel).size)
          subst hAe
          have HRG := Lib.hid hr
          have hsz : (bs (HD2 ++ (K.take i).flatMap Nd.cK.wr)).size ≤ 100000 := by
            rw [bs_size, ← EHD2.out]
            have h1 := HLW.out
            rw [HWN.out] at h1
            simp only [List.length_append] at h1 ⊢
            have := fm_take Nd.cK.wr K i
            omega
          have y1 := tx_size x.k
          have y1' : (tx x.k).size ≤ 1001 := by omega
          have y2' : (bs (be 4 x.n)).size ≤ 4 := by rw [bs_size, be_length]; exact Nat.le_refl _
          have y5' : (bs x.hs).size ≤ 32 := by rw [bs_size, xh]; exact Nat.le_refl _
          obtain ⟨X3, hX3⟩ : ∃ X3, tx x.k ++ bs (be 4 x.n) = X3 := ⟨_, rfl⟩
          obtain ⟨X6, hX6⟩ : ∃ X6, X3 ++ bs x.hs = X6 := ⟨_, rfl⟩
          obtain ⟨X4, hX4⟩ : ∃ X4, bs (HD2 ++ (K.take i).flatMap Nd.cK.wr) ++ X6 = X4 := ⟨_, rfl⟩
          have HE4 := Lib.hid (show X4 = bs (HD2 ++ (K.take (i + 1)).flatMap Nd.cK.wr) by rw [← hX4, ← hX6, ← hX3, wrK_tx, bs_app, fm_snoc _ hx, List.append_assoc])
          have y3 : X3.size ≤ 3000 := by rw [← hX3, ByteArray.size_append]; omega
          have y6 : X6.size ≤ 4000 := by rw [← hX6, ByteArray.size_append]; omega
          have E1 := Lib.hid hX3
          have E2 := Lib.hid hX6
          have E3 := Lib.hid hX4
          have HCV := Lib.hid (fun (w' : World) (h : w'.heap[wr.heap.size]? = some (.cells (ecK x).toArray 55 (0, 0))) => (Sp.conv_hash xh (by
            intro j v hv
            rw [cell_of_row _ _ (2 + j) _ _ _ h]
            unfold ecK
            rw [fix_of xh, List.getElem?_toArray, show 2 + j = j + 1 + 1 by omega]
            simpa using hv) : (convert 70 9 (.slice (some ⟨wr.heap.size, 2, none⟩) 32 32)).run Tryz.prog w' = .ok (.string (bs x.hs)) w'))
          clear hr hx hX3 hX4 hX6 y1 hb
          generalize bs (HD2 ++ (K.take i).flatMap Nd.cK.wr) = S at *
          generalize tx x.k = X1 at *
          generalize bs (be 4 x.n) = X2 at *
          generalize bs x.hs = X5 at *
          go_wp2_with (first
            | (refine wpList_load_at rfl 55 (.tmp 50) rfl b (o + i * 34) rfl (ecK x) _ HRG.out Tryz.underlying55 rfl (infoKs x) ?_)
            | (refine wpList_fresh rfl 55 (.tmp 7) (.tmp 51) rfl (ecK x).toArray _ _ rfl rfl (infoKa x) (ecK_sz x) (all_of_one (ecK_one x)) ?_; intro W5 hb5 hr5 hz5; have HB5 := Lib.hid ((Hid.out hbel).trans (hb5.mono (Hid.out hbel).size)); have HG5 := Lib.hid hr5; clear hb5 hr5 hz5))
          have kg := row_lt HG5.out
          have g0 : W5.cell? ⟨wr.heap.size, 0, none⟩ = some (.string x.k) := cell_of_row _ _ 0 _ _ _ HG5.out
          have g1 : W5.cell? ⟨wr.heap.size, 1, none⟩ = some (.int .u32 (x.n : Int)) := cell_of_row _ _ 1 _ _ _ HG5.out
          clear hbs hbel HRG
          generalize wr.heap.size = g at *
          refine wp_region_G (fun w' => Below W5.heap.size W5 w') (by kernel_rfl) (by kernel_rfl) (Below.refl _ _).drew ?_
          refine wpG_val (.string S) rfl (by rfl) (fun w' hSw => by go_simp) ?_
          simp only [List.setIfInBounds_toArray, List.set_cons_zero, List.set_cons_succ]
          refine wpG_val (.pointer (some ⟨g, 0, none⟩)) rfl (by rfl) (fun w' hSw => by go_simp) ?_
          simp only [List.setIfInBounds_toArray, List.set_cons_zero, List.set_cons_succ]
          refine wpG_val (.string x.k) rfl (by rfl) (fun w' hSw => by have c := (Below.cell hSw (p := ⟨g, 0, none⟩) kg).trans g0; go_simp) ?_
          simp only [List.setIfInBounds_toArray, List.set_cons_zero, List.set_cons_succ]
          refine wpG_call (.string X1) 39 #[.string x.k] rfl (by rfl) (fun w' => by go_simp) (fun w' hSw => (T1.out w').mono fun e w2 h => ⟨h.1, hSw.trans (h.2.mono hSw.size)⟩) ?_
          simp only [List.setIfInBounds_toArray, List.set_cons_zero, List.set_cons_succ]
          refine wpG_val (.pointer (some ⟨g, 1, none⟩)) rfl (by rfl) (fun w' hSw => by go_simp) ?_
          simp only [List.setIfInBounds_toArray, List.set_cons_zero, List.set_cons_succ]
          refine wpG_val (.int .u32 (x.n : Int)) rfl (by rfl) (fun w' hSw => by have c := (Below.cell hSw (p := ⟨g, 1, none⟩) kg).trans g1; go_simp) ?_
          simp only [List.setIfInBounds_toArray, List.set_cons_zero, List.set_cons_succ]
          refine wpG_val (.int .u64 (x.n : Int)) rfl (by rfl) (fun w' hSw => by have h := UX.out; go_simp) ?_
          simp only [List.setIfInBounds_toArray, List.set_cons_zero, List.set_cons_succ]
          refine wpG_call (.string X2) 37 #[.int .u64 (x.n : Int), .int .i64 4] rfl (by rfl) (fun w' => by go_simp) (fun w' hSw => (T2.out w').mono fun e w2 h => ⟨h.1, hSw.trans (h.2.mono hSw.size)⟩) ?_
          simp only [List.setIfInBounds_toArray, List.set_cons_zero, List.set_cons_succ]
          refine wpG_val (.string X3) rfl (by rfl) (fun w' hSw => by have h := E1.out; go_simp <;> omega) ?_
          simp only [List.setIfInBounds_toArray, List.set_cons_zero, List.set_cons_succ]
          refine wpG_val (.pointer (some ⟨g, 2, none⟩)) rfl (by rfl) (fun w' hSw => by go_simp) ?_
          simp only [List.setIfInBounds_toArray, List.set_cons_zero, List.set_cons_succ]
          refine wpG_val (.slice (some ⟨g, 2, none⟩) 32 32) rfl (by rfl) (fun w' hSw => by have c := (hSw.block _ kg).trans HG5.out; go_simp) ?_
          simp only [List.setIfInBounds_toArray, List.set_cons_zero, List.set_cons_succ]
          refine wpG_val (.string X5) rfl (by rfl) (fun w' hSw => by have c := HCV.out _ ((hSw.block _ kg).trans HG5.out); go_simp) ?_
          simp only [List.setIfInBounds_toArray, List.set_cons_zero, List.set_cons_succ]
          refine wpG_val (.string X6) rfl (by rfl) (fun w' hSw => by have h := E2.out; go_simp <;> omega) ?_
          simp only [List.setIfInBounds_toArray, List.set_cons_zero, List.set_cons_succ]
          refine wpG_val (.string X4) rfl (by rfl) (fun w' hSw => by have h := E3.out; go_simp <;> omega) ?_
          simp only [List.setIfInBounds_toArray, List.set_cons_zero, List.set_cons_succ]
          refine wpG_val (.string X4) rfl (by rfl) (fun w' hSw => by go_simp) ?_
          simp only [List.setIfInBounds_toArray, List.set_cons_zero, List.set_cons_succ]
          refine wpG_nil ?_
          intro w6 hSw6
          have HB6 := Lib.hid (HB5.out.trans (hSw6.mono HB5.out.size))
          clear hSw6 g0 g1 kg HB5 HG5
          go_wp2
          exact ⟨⟨i + 1, by omega, by go_num, by rw [HE4.out], HB6.out⟩, by simp [intOf] <;> omega⟩
        · skip
          have hin : i = nK := by omega
          have HTK := Lib.hid (show K.take i = K from List.take_of_length_le (by have := HK.out; omega))
          obtain ⟨w3, rfl⟩ : ∃ w2, w2 = wr := ⟨_, rfl⟩
          have HB3 := Lib.hid (HB2.out.trans ((Hid.out hbel).mono HB2.out.size))
          have HR3 := Lib.hid (((Hid.out hbel).block _ (row_lt HR2.out)).trans HR2.out)
          rw [HTK.out]
          obtain ⟨HD3, hHDn⟩ : ∃ H, HD2 ++ K.flatMap Nd.cK.wr = H := ⟨_, rfl⟩
          rw [hHDn]
          have EHD3 := Lib.hid hHDn
          clear hin hHDn hi hbel HTK
          have d3 : w3.cell? ⟨w.heap.size, 3, none⟩ = some (.slice AV nV cV) := cell_of_row _ _ 3 _ _ _ HR3.out
          go_wp2_with fail
          clear d3 hlt
          go_loopw [3, 70] (fun t v wr => ∃ i : Nat, i ≤ nV ∧ v = .int .i64 i ∧ t = .string (bs (HD3 ++ (V.take i).flatMap Nd.cV.wr)) ∧ Hid (Below w3.heap.size w3 wr)) (fun _ v _ => nV - (intOf v).toNat)
          case atStart => exact ⟨0, Nat.zero_le _, by go_num, by simp, Below.refl _ _⟩
          case round =>
            obtain ⟨i, hi, rfl, rfl, hbel⟩ := hrel
            by_cases hlt : i < nV
            · obtain ⟨x, hx⟩ : ∃ x, V[i]? = some x := ⟨_, List.getElem?_eq_getElem (by rw [← HV.out]; exact hlt)⟩
              obtain ⟨xk, xv⟩ := VX.out x (List.mem_of_getElem? hx)
              obtain ⟨x1, x2, x3, xh⟩ := WD.out.V x (List.mem_of_getElem? hx)
              have x1' : x.kd < 256 := x1
              have x2' : x.bn < 18446744073709551616 := x2
              have x3' : x.rt < 4294967296 := x3
              have T1 := Lib.hid (fun w => rtext_any x.nm (by omega) w)
              have T2 := Lib.hid (fun w => rtext_any x.fr (by omega) w)
              have T3 := Lib.hid (show ∀ w, Calls Tryz.prog 37 #[.int .u64 (x.kd : Nat), .int .i64 1] w fun e w' => e = .returned (.string (bs (be 1 x.kd))) ∧ Below w.heap.size w w' from fun w => Pk.ref_bytes x.kd 1 w (by omega) (by omega))
              have T4 := Lib.hid (show ∀ w, Calls Tryz.prog 37 #[.int .u64 (x.bn : Nat), .int .i64 8] w fun e w' => e = .returned (.string (bs (be 8 x.bn))) ∧ Below w.heap.size w w' from fun w => Pk.ref_bytes x.bn 8 w (by omega) (by omega))
              have T5 := Lib.hid (show ∀ w, Calls Tryz.prog 37 #[.int .u64 (x.rt : Nat), .int .i64 4] w fun e w' => e = .returned (.string (bs (be 4 x.rt))) ∧ Below w.heap.size w w' from fun w => Pk.ref_bytes x.rt 4 w (by omega) (by omega))
              have UK := Lib.hid (u64_same (n := x.kd) (by omega))
              have UR := Lib.hid (u64_same (n := x.rt) (by omega))
              obtain ⟨b, o, hAe, hb, hr⟩ := (LV.out.below (HB3.out.trans ((Hid.out hbel).mono HB3.out.size))) i x hx
              have hbs : b < wr.heap.size := Nat.lt_of_lt_of_le hb (Nat.le_trans HB3.out.size (Hid.out hbel).size)
              subst hAe
              have HRG := Lib.hid hr
              have hsz : (bs (HD3 ++ (V.take i).flatMap Nd.cV.wr)).size ≤ 100000 := by
                rw [bs_size, ← EHD3.out, ← EHD2.out]
                have h1 := HLW.out
                rw [HWN.out] at h1
                simp only [List.length_append] at h1 ⊢
                have := fm_take Nd.cV.wr V i
                omega
              have y1 := tx_size x.nm
              have y2 := tx_size x.fr
              have y1' : (tx x.nm).size ≤ 1001 := by omega
              have y2' : (tx x.fr).size ≤ 1001 := by omega
              have y3' : (bs (be 1 x.kd)).size ≤ 1 := by rw [bs_size, be_length]; exact Nat.le_refl _
              have y7' : (bs (be 8 x.bn)).size ≤ 8 := by rw [bs_size, be_length]; exact Nat.le_refl _
              have y8' : (bs (be 4 x.rt)).size ≤ 4 := by rw [bs_size, be_length]; exact Nat.le_refl _
              have y5' : (bs x.hs).size ≤ 32 := by rw [bs_size, xh]; exact Nat.le_refl _
              obtain ⟨Y1, hY1⟩ : ∃ Y, tx x.nm ++ tx x.fr = Y := ⟨_, rfl⟩
              obtain ⟨Y2, hY2⟩ : ∃ Y, Y1 ++ bs (be 1 x.kd) = Y := ⟨_, rfl⟩
              obtain ⟨Y3, hY3⟩ : ∃ Y, Y2 ++ bs (be 8 x.bn) = Y := ⟨_, rfl⟩
              obtain ⟨Y4, hY4⟩ : ∃ Y, Y3 ++ bs (be 4 x.rt) = Y := ⟨_, rfl⟩
              obtain ⟨Y5, hY5⟩ : ∃ Y, Y4 ++ bs x.hs = Y := ⟨_, rfl⟩
              obtain ⟨X4, hX4⟩ : ∃ X4, bs (HD3 ++ (V.take i).flatMap Nd.cV.wr) ++ Y5 = X4 := ⟨_, rfl⟩
              have HE4 := Lib.hid (show X4 = bs (HD3 ++ (V.take (i + 1)).flatMap Nd.cV.wr) by rw [← hX4, ← hY5, ← hY4, ← hY3, ← hY2, ← hY1, wrV_tx, bs_app, fm_snoc _ hx, List.append_assoc])
              have z1' : Y1.size ≤ 2010 := by rw [← hY1, ByteArray.size_append]; omega
              have z2' : Y2.size ≤ 2020 := by rw [← hY2, ByteArray.size_append]; omega
              have z3' : Y3.size ≤ 2030 := by rw [← hY3, ByteArray.size_append]; omega
              have z4' : Y4.size ≤ 2040 := by rw [← hY4, ByteArray.size_append]; omega
              have z5' : Y5.size ≤ 2080 := by rw [← hY5, ByteArray.size_append]; omega
              have E1 := Lib.hid hY1
              have E2 := Lib.hid hY2
              have E3 := Lib.hid hY3
              have E4 := Lib.hid hY4
              have E5 := Lib.hid hY5
              have E6 := Lib.hid hX4
              have HCV := Lib.hid (fun (w' : World) (h : w'.heap[wr.heap.size]? = some (.cells (ecV x).toArray 59 (0, 0))) => (Sp.conv_hash xh (by
                intro j v hv
                rw [cell_of_row _ _ (5 + j) _ _ _ h]
                unfold ecV
                rw [fix_of xh, List.getElem?_toArray, show 5 + j = j + 1 + 1 + 1 + 1 + 1 by omega]
                simpa using hv) : (convert 70 9 (.slice (some ⟨wr.heap.size, 5, none⟩) 32 32)).run Tryz.prog w' = .ok (.string (bs x.hs)) w'))
              clear hr hx hX4 hY1 hY2 hY3 hY4 hY5 y1 y2 hb
              generalize bs (HD3 ++ (V.take i).flatMap Nd.cV.wr) = S at *
              generalize tx x.nm = X1 at *
              generalize tx x.fr = X2 at *
              generalize bs (be 1 x.kd) = X3 at *
              generalize bs (be 8 x.bn) = X7 at *
              generalize bs (be 4 x.rt) = X8 at *
              generalize bs x.hs = X5 at *
              go_wp2_with (first
                | (refine wpList_load_at rfl 59 (.tmp 72) rfl b (o + i * 37) rfl (ecV x) _ HRG.out Tryz.underlying59 rfl (infoVs x) ?_)
                | (refine wpList_fresh rfl 59 (.tmp 9) (.tmp 73) rfl (ecV x).toArray _ _ rfl rfl (infoVa x) (ecV_sz x) (all_of_one (ecV_one x)) ?_; intro W5 hb5 hr5 hz5; have HB5 := Lib.hid ((Hid.out hbel).trans (hb5.mono (Hid.out hbel).size)); have HG5 := Lib.hid hr5; clear hb5 hr5 hz5))
              have kg := row_lt HG5.out
              have g0 : W5.cell? ⟨wr.heap.size, 0, none⟩ = some (.string x.nm) := cell_of_row _ _ 0 _ _ _ HG5.out
              have g1 : W5.cell? ⟨wr.heap.size, 1, none⟩ = some (.int .u8 (x.kd : Int)) := cell_of_row _ _ 1 _ _ _ HG5.out
              have g2 : W5.cell? ⟨wr.heap.size, 2, none⟩ = some (.string x.fr) := cell_of_row _ _ 2 _ _ _ HG5.out
              have g3 : W5.cell? ⟨wr.heap.size, 3, none⟩ = some (.int .u64 (x.bn : Int)) := cell_of_row _ _ 3 _ _ _ HG5.out
              have g4 : W5.cell? ⟨wr.heap.size, 4, none⟩ = some (.int .u32 (x.rt : Int)) := cell_of_row _ _ 4 _ _ _ HG5.out
              clear hbs hbel HRG
              generalize wr.heap.size = g at *
              refine wp_region_G (fun w' => Below W5.heap.size W5 w') (by kernel_rfl) (by kernel_rfl) (Below.refl _ _).drew ?_
              refine wpG_val (.string S) rfl (by rfl) (fun w' hSw => by go_simp) ?_
              simp only [List.setIfInBounds_toArray, List.set_cons_zero, List.set_cons_succ]
              refine wpG_val (.pointer (some ⟨g, 0, none⟩)) rfl (by rfl) (fun w' hSw => by go_simp) ?_
              simp only [List.setIfInBounds_toArray, List.set_cons_zero, List.set_cons_succ]
              refine wpG_val (.string x.nm) rfl (by rfl) (fun w' hSw => by have c := (Below.cell hSw (p := ⟨g, 0, none⟩) kg).trans g0; go_simp) ?_
              simp only [List.setIfInBounds_toArray, List.set_cons_zero, List.set_cons_succ]
              refine wpG_call (.string X1) 39 #[.string x.nm] rfl (by rfl) (fun w' => by go_simp) (fun w' hSw => (T1.out w').mono fun e w2 h => ⟨h.1, hSw.trans (h.2.mono hSw.size)⟩) ?_
              simp only [List.setIfInBounds_toArray, List.set_cons_zero, List.set_cons_succ]
              refine wpG_val (.pointer (some ⟨g, 2, none⟩)) rfl (by rfl) (fun w' hSw => by go_simp) ?_
              simp only [List.setIfInBounds_toArray, List.set_cons_zero, List.set_cons_succ]
              refine wpG_val (.string x.fr) rfl (by rfl) (fun w' hSw => by have c := (Below.cell hSw (p := ⟨g, 2, none⟩) kg).trans g2; go_simp) ?_
              simp only [List.setIfInBounds_toArray, List.set_cons_zero, List.set_cons_succ]
              refine wpG_call (.string X2) 39 #[.string x.fr] rfl (by rfl) (fun w' => by go_simp) (fun w' hSw => (T2.out w').mono fun e w2 h => ⟨h.1, hSw.trans (h.2.mono hSw.size)⟩) ?_
              simp only [List.setIfInBounds_toArray, List.set_cons_zero, List.set_cons_succ]
              refine wpG_val (.string Y1) rfl (by rfl) (fun w' hSw => by have h := E1.out; go_simp <;> omega) ?_
              simp only [List.setIfInBounds_toArray, List.set_cons_zero, List.set_cons_succ]
              refine wpG_val (.pointer (some ⟨g, 1, none⟩)) rfl (by rfl) (fun w' hSw => by go_simp) ?_
              simp only [List.setIfInBounds_toArray, List.set_cons_zero, List.set_cons_succ]
              refine wpG_val (.int .u8 (x.kd : Int)) rfl (by rfl) (fun w' hSw => by have c := (Below.cell hSw (p := ⟨g, 1, none⟩) kg).trans g1; go_simp) ?_
              simp only [List.setIfInBounds_toArray, List.set_cons_zero, List.set_cons_succ]
              refine wpG_val (.int .u64 (x.kd : Int)) rfl (by rfl) (fun w' hSw => by have h := UK.out; go_simp) ?_
              simp only [List.setIfInBounds_toArray, List.set_cons_zero, List.set_cons_succ]
              refine wpG_call (.string X3) 37 #[.int .u64 (x.kd : Int), .int .i64 1] rfl (by rfl) (fun w' => by go_simp) (fun w' hSw => (T3.out w').mono fun e w2 h => ⟨h.1, hSw.trans (h.2.mono hSw.size)⟩) ?_
              simp only [List.setIfInBounds_toArray, List.set_cons_zero, List.set_cons_succ]
              refine wpG_val (.string Y2) rfl (by rfl) (fun w' hSw => by have h := E2.out; go_simp <;> omega) ?_
              simp only [List.setIfInBounds_toArray, List.set_cons_zero, List.set_cons_succ]
              refine wpG_val (.pointer (some ⟨g, 3, none⟩)) rfl (by rfl) (fun w' hSw => by go_simp) ?_
              simp only [List.setIfInBounds_toArray, List.set_cons_zero, List.set_cons_succ]
              refine wpG_val (.int .u64 (x.bn : Int)) rfl (by rfl) (fun w' hSw => by have c := (Below.cell hSw (p := ⟨g, 3, none⟩) kg).trans g3; go_simp) ?_
              simp only [List.setIfInBounds_toArray, List.set_cons_zero, List.set_cons_succ]
              refine wpG_call (.string X7) 37 #[.int .u64 (x.bn : Int), .int .i64 8] rfl (by rfl) (fun w' => by go_simp) (fun w' hSw => (T4.out w').mono fun e w2 h => ⟨h.1, hSw.trans (h.2.mono hSw.size)⟩) ?_
              simp only [List.setIfInBounds_toArray, List.set_cons_zero, List.set_cons_succ]
              refine wpG_val (.string Y3) rfl (by rfl) (fun w' hSw => by have h := E3.out; go_simp <;> omega) ?_
              simp only [List.setIfInBounds_toArray, List.set_cons_zero, List.set_cons_succ]
              refine wpG_val (.pointer (some ⟨g, 4, none⟩)) rfl (by rfl) (fun w' hSw => by go_simp) ?_
              simp only [List.setIfInBounds_toArray, List.set_cons_zero, List.set_cons_succ]
              refine wpG_val (.int .u32 (x.rt : Int)) rfl (by rfl) (fun w' hSw => by have c := (Below.cell hSw (p := ⟨g, 4, none⟩) kg).trans g4; go_simp) ?_
              simp only [List.setIfInBounds_toArray, List.set_cons_zero, List.set_cons_succ]
              refine wpG_val (.int .u64 (x.rt : Int)) rfl (by rfl) (fun w' hSw => by have h := UR.out; go_simp) ?_
              simp only [List.setIfInBounds_toArray, List.set_cons_zero, List.set_cons_succ]
              refine wpG_call (.string X8) 37 #[.int .u64 (x.rt : Int), .int .i64 4] rfl (by rfl) (fun w' => by go_simp) (fun w' hSw => (T5.out w').mono fun e w2 h => ⟨h.1, hSw.trans (h.2.mono hSw.size)⟩) ?_
              simp only [List.setIfInBounds_toArray, List.set_cons_zero, List.set_cons_succ]
              refine wpG_val (.string Y4) rfl (by rfl) (fun w' hSw => by have h := E4.out; go_simp <;> omega) ?_
              simp only [List.setIfInBounds_toArray, List.set_cons_zero, List.set_cons_succ]
              refine wpG_val (.pointer (some ⟨g, 5, none⟩)) rfl (by rfl) (fun w' hSw => by go_simp) ?_
              simp only [List.setIfInBounds_toArray, List.set_cons_zero, List.set_cons_succ]
              refine wpG_val (.slice (some ⟨g, 5, none⟩) 32 32) rfl (by rfl) (fun w' hSw => by have c := (hSw.block _ kg).trans HG5.out; go_simp) ?_
              simp only [List.setIfInBounds_toArray, List.set_cons_zero, List.set_cons_succ]
              refine wpG_val (.string X5) rfl (by rfl) (fun w' hSw => by have c := HCV.out _ ((hSw.block _ kg).trans HG5.out); go_simp) ?_
              simp only [List.setIfInBounds_toArray, List.set_cons_zero, List.set_cons_succ]
              refine wpG_val (.string Y5) rfl (by rfl) (fun w' hSw => by have h := E5.out; go_simp <;> omega) ?_
              simp only [List.setIfInBounds_toArray, List.set_cons_zero, List.set_cons_succ]
              refine wpG_val (.string X4) rfl (by rfl) (fun w' hSw => by have h := E6.out; go_simp <;> omega) ?_
              simp only [List.setIfInBounds_toArray, List.set_cons_zero, List.set_cons_succ]
              refine wpG_val (.string X4) rfl (by rfl) (fun w' hSw => by go_simp) ?_
              simp only [List.setIfInBounds_toArray, List.set_cons_zero, List.set_cons_succ]
              refine wpG_nil ?_
              intro w6 hSw6
              have HB6 := Lib.hid (HB5.out.trans (hSw6.mono HB5.out.size))
              clear hSw6 g0 g1 g2 g3 g4 kg HB5 HG5
              go_wp2
              exact ⟨⟨i + 1, by omega, by go_num, by rw [HE4.out], HB6.out⟩, by simp [intOf] <;> omega⟩
            · have hin : i = nV := by omega
              have HTK := Lib.hid (show V.take i = V from List.take_of_length_le (by have := HV.out; omega))
              have HBZ := Lib.hid (HB3.out.trans ((Hid.out hbel).mono HB3.out.size))
              have HFIN := Lib.hid (show bs (HD3 ++ (V.take i).flatMap Nd.cV.wr) = bs (wN ⟨kd, I, K, V⟩) by rw [HTK.out, HWN.out, ← EHD3.out, ← EHD2.out, List.append_assoc, List.append_assoc])
              rw [HFIN.out]
              clear hin hbel HTK
              go_wp2
              go_ret
              exact ⟨rfl, HBZ.out⟩
end Go.Proofs.YtnfcgifkghegjaaGreatDoor.Nr
/- Contracts of package node's right, Check. -/
namespace Go.Proofs.YtnfcgifkghegjaaGreatDoor.Nd
set_option linter.unusedVariables false
set_option linter.unusedSimpArgs false
open Go.ChangeShapes Go.WideShapes Go.ChangeAt Go.RowKit
open Ar Rg
open BigFrame
open Pk (u8s u8s_length)
open It (str_le below_drewN)
theorem rightCount_at (n : Nat) (w : World) : Calls Tryz.prog 51 #[.int .i64 n] w fun e w' => e = .returned (.bool (okCount n)) ∧ w = w' := rightCount_any n w
set_option maxRecDepth 100000 in
set_option maxHeartbeats 4000000 in
theorem right_any (n : Nd) (hw : Wd n) (cs : Array Value) (w : World) (hn : NdAt w cs n) :
    Calls Tryz.prog 27 #[.agg cs] w fun e w' => e = .returned (.bool (rtN n)) ∧ Below w.heap.size w w' := by
  obtain ⟨AI, nI, cI, AK, nK, cK, AV, nV, cV, rfl, hI, hK, hV, bI, bK, bV, lI, lK, lV⟩ := hn
  obtain ⟨kd, I, K, V⟩ := n
  obtain ⟨wK, wV⟩ := hw
  dsimp only at hI hK hV lI lK lV wK wV ⊢
  have HB0 := Lib.hid (show Below w.heap.size w (w.alloc (.cells #[.int .u8 (kd : Int), .slice AI nI cI, .slice AK nK cK, .slice AV nV cV] 27)) from (Below.refl _ _).alloc (Nat.le_refl _) _)
  have HR0 := Lib.hid (heap_alloc_new w (.cells #[.int .u8 (kd : Int), .slice AI nI cI, .slice AK nK cK, .slice AV nV cV] 27))
  have HLI := Lib.hid lI
  have HLK := Lib.hid lK
  have HLV := Lib.hid lV
  have HWK := Lib.hid (show ∀ x ∈ K, x.hs.length = 32 from fun x hx => (wK x hx).2)
  have HWV := Lib.hid (show ∀ x ∈ V, x.hs.length = 32 from fun x hx => (wV x hx).2.2.2)
  have HCI := Lib.hid (fun w' (hb : Below w.heap.size w w') => It.check_any I AI nI cI w.heap.size hI bI w' hb.size (lI.below hb))
  have HCK := Lib.hid (fun w' (hb : Below w.heap.size w w') => rightKids_any K (fun x hx => (wK x hx).2) AK nK cK w.heap.size hK bK w' hb.size (lK.below hb))
  have HCV := Lib.hid (fun w' (hb : Below w.heap.size w w') => rightVolumes_any V (fun x hx => (wV x hx).2.2.2) AV nV cV w.heap.size hV bV w' hb.size (lV.below hb))
  obtain ⟨R, hR⟩ : ∃ R, rtN ⟨kd, I, K, V⟩ = R := ⟨_, rfl⟩
  rw [hR]
  have HR := Lib.hid hR
  unfold rtN at HR
  dsimp only at HR
  rw [← hI, ← hK, ← hV] at HR
  clear hI hK hV lI lK lV wK wV hR HLI HLK HLV HWK HWV
  by_cases h1 : kd = 1
  · by_cases c1 : nK = 0
    · have snK : ((nK : Int) == 0) = true := by rw [beq_iff_eq]; omega
      by_cases c2 : nV = 0
      · have snV : ((nV : Int) == 0) = true := by rw [beq_iff_eq]; omega
        have HQ := Lib.hid (fun w => rightCount_any nI w)
        have HX := Lib.hid (show R = (okCount nI && It.rt I) by rw [← HR.out]; simp [h1, c1, c2])
        clear HR c1 c2
        generalize okCount nI = p at *
        generalize It.rt I = q at *
        cases p
        · have H1 := Lib.hid h1
          clear h1
          go_enter Tryz.func27, Tryz.ntmps27
          go_wp2_with fail
          generalize w.alloc _ = w0 at *
          have a0 : w0.cell? ⟨w.heap.size, 0, none⟩ = some (.int .u8 kd) := cell_of_row _ _ 0 _ _ _ HR0.out
          have a1 : w0.cell? ⟨w.heap.size, 1, none⟩ = some (.slice AI nI cI) := cell_of_row _ _ 1 _ _ _ HR0.out
          have a2 : w0.cell? ⟨w.heap.size, 2, none⟩ = some (.slice AK nK cK) := cell_of_row _ _ 2 _ _ _ HR0.out
          have a3 : w0.cell? ⟨w.heap.size, 3, none⟩ = some (.slice AV nV cV) := cell_of_row _ _ 3 _ _ _ HR0.out
          go_quiet (fail)
          have HB1 := Lib.hid (below_drewN HB0.out nq)
          have b0 : (w0.drewN nq).cell? ⟨w.heap.size, 0, none⟩ = some (.int .u8 kd) := a0
          have b1 : (w0.drewN nq).cell? ⟨w.heap.size, 1, none⟩ = some (.slice AI nI cI) := a1
          have b2 : (w0.drewN nq).cell? ⟨w.heap.size, 2, none⟩ = some (.slice AK nK cK) := a2
          have b3 : (w0.drewN nq).cell? ⟨w.heap.size, 3, none⟩ = some (.slice AV nV cV) := a3
          clear a0 a1 a2 a3 HB0 HR0
          generalize World.drewN _ _ = W1 at *
          have q1 : ((kd : Int) == 1) = true := by rw [H1.out]; rfl
          go_wp2_with (first | (go_at_call 51; refine (HQ.out _).mono ?_; rintro e w' ⟨rfl, rfl⟩))
          go_ret
          exact ⟨by rw [HX.out]; rfl, HB1.out⟩
        · cases q
          · rw [show It.errF false = Value.int .i64 4 from rfl] at HCI
            have H1 := Lib.hid h1
            clear h1
            go_enter Tryz.func27, Tryz.ntmps27
            go_wp2_with fail
            generalize w.alloc _ = w0 at *
            have a0 : w0.cell? ⟨w.heap.size, 0, none⟩ = some (.int .u8 kd) := cell_of_row _ _ 0 _ _ _ HR0.out
            have a1 : w0.cell? ⟨w.heap.size, 1, none⟩ = some (.slice AI nI cI) := cell_of_row _ _ 1 _ _ _ HR0.out
            have a2 : w0.cell? ⟨w.heap.size, 2, none⟩ = some (.slice AK nK cK) := cell_of_row _ _ 2 _ _ _ HR0.out
            have a3 : w0.cell? ⟨w.heap.size, 3, none⟩ = some (.slice AV nV cV) := cell_of_row _ _ 3 _ _ _ HR0.out
            go_quiet (fail)
            have HB1 := Lib.hid (below_drewN HB0.out nq)
            have b0 : (w0.drewN nq).cell? ⟨w.heap.size, 0, none⟩ = some (.int .u8 kd) := a0
            have b1 : (w0.drewN nq).cell? ⟨w.heap.size, 1, none⟩ = some (.slice AI nI cI) := a1
            have b2 : (w0.drewN nq).cell? ⟨w.heap.size, 2, none⟩ = some (.slice AK nK cK) := a2
            have b3 : (w0.drewN nq).cell? ⟨w.heap.size, 3, none⟩ = some (.slice AV nV cV) := a3
            clear a0 a1 a2 a3 HB0 HR0
            generalize World.drewN _ _ = W1 at *
            have q1 : ((kd : Int) == 1) = true := by rw [H1.out]; rfl
            go_wp2_with (first | (go_at_call 51; refine (HQ.out _).mono ?_; rintro e w' ⟨rfl, rfl⟩) | (go_at_call 52; refine (HCI.out _ HB1.out).mono ?_; rintro e w3 ⟨rfl, hb3⟩))
            go_ret
            exact ⟨by rw [HX.out]; rfl, HB1.out.trans (hb3.mono HB1.out.size)⟩
          · rw [show It.errF true = Value.int .i64 0 from rfl] at HCI
            have H1 := Lib.hid h1
            clear h1
            go_enter Tryz.func27, Tryz.ntmps27
            go_wp2_with fail
            generalize w.alloc _ = w0 at *
            have a0 : w0.cell? ⟨w.heap.size, 0, none⟩ = some (.int .u8 kd) := cell_of_row _ _ 0 _ _ _ HR0.out
            have a1 : w0.cell? ⟨w.heap.size, 1, none⟩ = some (.slice AI nI cI) := cell_of_row _ _ 1 _ _ _ HR0.out
            have a2 : w0.cell? ⟨w.heap.size, 2, none⟩ = some (.slice AK nK cK) := cell_of_row _ _ 2 _ _ _ HR0.out
            have a3 : w0.cell? ⟨w.heap.size, 3, none⟩ = some (.slice AV nV cV) := cell_of_row _ _ 3 _ _ _ HR0.out
            go_quiet (fail)
            have HB1 := Lib.hid (below_drewN HB0.out nq)
            have b0 : (w0.drewN nq).cell? ⟨w.heap.size, 0, none⟩ = some (.int .u8 kd) := a0
            have b1 : (w0.drewN nq).cell? ⟨w.heap.size, 1, none⟩ = some (.slice AI nI cI) := a1
            have b2 : (w0.drewN nq).cell? ⟨w.heap.size, 2, none⟩ = some (.slice AK nK cK) := a2
            have b3 : (w0.drewN nq).cell? ⟨w.heap.size, 3, none⟩ = some (.slice AV nV cV) := a3
            clear a0 a1 a2 a3 HB0 HR0
            generalize World.drewN _ _ = W1 at *
            have q1 : ((kd : Int) == 1) = true := by rw [H1.out]; rfl
            go_wp2_with (first | (go_at_call 51; refine (HQ.out _).mono ?_; rintro e w' ⟨rfl, rfl⟩) | (go_at_call 52; refine (HCI.out _ HB1.out).mono ?_; rintro e w3 ⟨rfl, hb3⟩))
            go_ret
            exact ⟨by rw [HX.out]; rfl, HB1.out.trans (hb3.mono HB1.out.size)⟩
      · have snV : ((nV : Int) == 0) = false := by rw [beq_eq_false_iff_ne]; omega
        have HX := Lib.hid (show R = false by rw [← HR.out]; simp [h1, c1, c2])
        clear HR c1 c2
        have H1 := Lib.hid h1
        clear h1
        go_enter Tryz.func27, Tryz.ntmps27
        go_wp2_with fail
        generalize w.alloc _ = w0 at *
        have a0 : w0.cell? ⟨w.heap.size, 0, none⟩ = some (.int .u8 kd) := cell_of_row _ _ 0 _ _ _ HR0.out
        have a1 : w0.cell? ⟨w.heap.size, 1, none⟩ = some (.slice AI nI cI) := cell_of_row _ _ 1 _ _ _ HR0.out
        have a2 : w0.cell? ⟨w.heap.size, 2, none⟩ = some (.slice AK nK cK) := cell_of_row _ _ 2 _ _ _ HR0.out
        have a3 : w0.cell? ⟨w.heap.size, 3, none⟩ = some (.slice AV nV cV) := cell_of_row _ _ 3 _ _ _ HR0.out
        go_quiet (fail)
        have HB1 := Lib.hid (below_drewN HB0.out nq)
        have b0 : (w0.drewN nq).cell? ⟨w.heap.size, 0, none⟩ = some (.int .u8 kd) := a0
        have b1 : (w0.drewN nq).cell? ⟨w.heap.size, 1, none⟩ = some (.slice AI nI cI) := a1
        have b2 : (w0.drewN nq).cell? ⟨w.heap.size, 2, none⟩ = some (.slice AK nK cK) := a2
        have b3 : (w0.drewN nq).cell? ⟨w.heap.size, 3, none⟩ = some (.slice AV nV cV) := a3
        clear a0 a1 a2 a3 HB0 HR0
        generalize World.drewN _ _ = W1 at *
        have q1 : ((kd : Int) == 1) = true := by rw [H1.out]; rfl
        go_wp2_with fail
        go_ret
        exact ⟨by rw [HX.out]; rfl, HB1.out⟩
    · have snK : ((nK : Int) == 0) = false := by rw [beq_eq_false_iff_ne]; omega
      have HX := Lib.hid (show R = false by rw [← HR.out]; simp [h1, c1])
      clear HR c1
      have H1 := Lib.hid h1
      clear h1
      go_enter Tryz.func27, Tryz.ntmps27
      go_wp2_with fail
      generalize w.alloc _ = w0 at *
      have a0 : w0.cell? ⟨w.heap.size, 0, none⟩ = some (.int .u8 kd) := cell_of_row _ _ 0 _ _ _ HR0.out
      have a1 : w0.cell? ⟨w.heap.size, 1, none⟩ = some (.slice AI nI cI) := cell_of_row _ _ 1 _ _ _ HR0.out
      have a2 : w0.cell? ⟨w.heap.size, 2, none⟩ = some (.slice AK nK cK) := cell_of_row _ _ 2 _ _ _ HR0.out
      have a3 : w0.cell? ⟨w.heap.size, 3, none⟩ = some (.slice AV nV cV) := cell_of_row _ _ 3 _ _ _ HR0.out
      go_quiet (fail)
      have HB1 := Lib.hid (below_drewN HB0.out nq)
      have b0 : (w0.drewN nq).cell? ⟨w.heap.size, 0, none⟩ = some (.int .u8 kd) := a0
      have b1 : (w0.drewN nq).cell? ⟨w.heap.size, 1, none⟩ = some (.slice AI nI cI) := a1
      have b2 : (w0.drewN nq).cell? ⟨w.heap.size, 2, none⟩ = some (.slice AK nK cK) := a2
      have b3 : (w0.drewN nq).cell? ⟨w.heap.size, 3, none⟩ = some (.slice AV nV cV) := a3
      clear a0 a1 a2 a3 HB0 HR0
      generalize World.drewN _ _ = W1 at *
      have q1 : ((kd : Int) == 1) = true := by rw [H1.out]; rfl
      go_wp2_with fail
      go_ret
      exact ⟨by rw [HX.out]; rfl, HB1.out⟩
  by_cases h2 : kd = 2
  · by_cases c1 : nI = 0
    · have snI : ((nI : Int) == 0) = true := by rw [beq_iff_eq]; omega
      by_cases c2 : nV = 0
      · have snV : ((nV : Int) == 0) = true := by rw [beq_iff_eq]; omega
        have HQ := Lib.hid (fun w => rightCount_any nK w)
        have HX := Lib.hid (show R = (okCount nK && rtK none K) by rw [← HR.out]; simp [h1, h2, c1, c2])
        clear HR c1 c2
        generalize okCount nK = p at *
        generalize rtK none K = q at *
        cases p
        · have H1 := Lib.hid h1
          clear h1
          have H2 := Lib.hid h2
          clear h2
          go_enter Tryz.func27, Tryz.ntmps27
          go_wp2_with fail
          generalize w.alloc _ = w0 at *
          have a0 : w0.cell? ⟨w.heap.size, 0, none⟩ = some (.int .u8 kd) := cell_of_row _ _ 0 _ _ _ HR0.out
          have a1 : w0.cell? ⟨w.heap.size, 1, none⟩ = some (.slice AI nI cI) := cell_of_row _ _ 1 _ _ _ HR0.out
          have a2 : w0.cell? ⟨w.heap.size, 2, none⟩ = some (.slice AK nK cK) := cell_of_row _ _ 2 _ _ _ HR0.out
          have a3 : w0.cell? ⟨w.heap.size, 3, none⟩ = some (.slice AV nV cV) := cell_of_row _ _ 3 _ _ _ HR0.out
          go_quiet (fail)
          have HB1 := Lib.hid (below_drewN HB0.out nq)
          have b0 : (w0.drewN nq).cell? ⟨w.heap.size, 0, none⟩ = some (.int .u8 kd) := a0
          have b1 : (w0.drewN nq).cell? ⟨w.heap.size, 1, none⟩ = some (.slice AI nI cI) := a1
          have b2 : (w0.drewN nq).cell? ⟨w.heap.size, 2, none⟩ = some (.slice AK nK cK) := a2
          have b3 : (w0.drewN nq).cell? ⟨w.heap.size, 3, none⟩ = some (.slice AV nV cV) := a3
          clear a0 a1 a2 a3 HB0 HR0
          generalize World.drewN _ _ = W1 at *
          have q1 : ((kd : Int) == 1) = false := by rw [beq_eq_false_iff_ne]; have := H1.out; omega
          have q2 : ((kd : Int) == 2) = true := by rw [H2.out]; rfl
          go_wp2_with (first | (go_at_call 51; refine (HQ.out _).mono ?_; rintro e w' ⟨rfl, rfl⟩))
          go_ret
          exact ⟨by rw [HX.out]; rfl, HB1.out⟩
        · cases q
          · have H1 := Lib.hid h1
            clear h1
            have H2 := Lib.hid h2
            clear h2
            go_enter Tryz.func27, Tryz.ntmps27
            go_wp2_with fail
            generalize w.alloc _ = w0 at *
            have a0 : w0.cell? ⟨w.heap.size, 0, none⟩ = some (.int .u8 kd) := cell_of_row _ _ 0 _ _ _ HR0.out
            have a1 : w0.cell? ⟨w.heap.size, 1, none⟩ = some (.slice AI nI cI) := cell_of_row _ _ 1 _ _ _ HR0.out
            have a2 : w0.cell? ⟨w.heap.size, 2, none⟩ = some (.slice AK nK cK) := cell_of_row _ _ 2 _ _ _ HR0.out
            have a3 : w0.cell? ⟨w.heap.size, 3, none⟩ = some (.slice AV nV cV) := cell_of_row _ _ 3 _ _ _ HR0.out
            go_quiet (fail)
            have HB1 := Lib.hid (below_drewN HB0.out nq)
            have b0 : (w0.drewN nq).cell? ⟨w.heap.size, 0, none⟩ = some (.int .u8 kd) := a0
            have b1 : (w0.drewN nq).cell? ⟨w.heap.size, 1, none⟩ = some (.slice AI nI cI) := a1
            have b2 : (w0.drewN nq).cell? ⟨w.heap.size, 2, none⟩ = some (.slice AK nK cK) := a2
            have b3 : (w0.drewN nq).cell? ⟨w.heap.size, 3, none⟩ = some (.slice AV nV cV) := a3
            clear a0 a1 a2 a3 HB0 HR0
            generalize World.drewN _ _ = W1 at *
            have q1 : ((kd : Int) == 1) = false := by rw [beq_eq_false_iff_ne]; have := H1.out; omega
            have q2 : ((kd : Int) == 2) = true := by rw [H2.out]; rfl
            go_wp2_with (first | (go_at_call 51; refine (HQ.out _).mono ?_; rintro e w' ⟨rfl, rfl⟩) | (go_at_call 53; refine (HCK.out _ HB1.out).mono ?_; rintro e w3 ⟨rfl, hb3⟩))
            go_ret
            exact ⟨by rw [HX.out]; rfl, HB1.out.trans (hb3.mono HB1.out.size)⟩
          · have H1 := Lib.hid h1
            clear h1
            have H2 := Lib.hid h2
            clear h2
            go_enter Tryz.func27, Tryz.ntmps27
            go_wp2_with fail
            generalize w.alloc _ = w0 at *
            have a0 : w0.cell? ⟨w.heap.size, 0, none⟩ = some (.int .u8 kd) := cell_of_row _ _ 0 _ _ _ HR0.out
            have a1 : w0.cell? ⟨w.heap.size, 1, none⟩ = some (.slice AI nI cI) := cell_of_row _ _ 1 _ _ _ HR0.out
            have a2 : w0.cell? ⟨w.heap.size, 2, none⟩ = some (.slice AK nK cK) := cell_of_row _ _ 2 _ _ _ HR0.out
            have a3 : w0.cell? ⟨w.heap.size, 3, none⟩ = some (.slice AV nV cV) := cell_of_row _ _ 3 _ _ _ HR0.out
            go_quiet (fail)
            have HB1 := Lib.hid (below_drewN HB0.out nq)
            have b0 : (w0.drewN nq).cell? ⟨w.heap.size, 0, none⟩ = some (.int .u8 kd) := a0
            have b1 : (w0.drewN nq).cell? ⟨w.heap.size, 1, none⟩ = some (.slice AI nI cI) := a1
            have b2 : (w0.drewN nq).cell? ⟨w.heap.size, 2, none⟩ = some (.slice AK nK cK) := a2
            have b3 : (w0.drewN nq).cell? ⟨w.heap.size, 3, none⟩ = some (.slice AV nV cV) := a3
            clear a0 a1 a2 a3 HB0 HR0
            generalize World.drewN _ _ = W1 at *
            have q1 : ((kd : Int) == 1) = false := by rw [beq_eq_false_iff_ne]; have := H1.out; omega
            have q2 : ((kd : Int) == 2) = true := by rw [H2.out]; rfl
            go_wp2_with (first | (go_at_call 51; refine (HQ.out _).mono ?_; rintro e w' ⟨rfl, rfl⟩) | (go_at_call 53; refine (HCK.out _ HB1.out).mono ?_; rintro e w3 ⟨rfl, hb3⟩))
            go_ret
            exact ⟨by rw [HX.out]; rfl, HB1.out.trans (hb3.mono HB1.out.size)⟩
      · have snV : ((nV : Int) == 0) = false := by rw [beq_eq_false_iff_ne]; omega
        have HX := Lib.hid (show R = false by rw [← HR.out]; simp [h1, h2, c1, c2])
        clear HR c1 c2
        have H1 := Lib.hid h1
        clear h1
        have H2 := Lib.hid h2
        clear h2
        go_enter Tryz.func27, Tryz.ntmps27
        go_wp2_with fail
        generalize w.alloc _ = w0 at *
        have a0 : w0.cell? ⟨w.heap.size, 0, none⟩ = some (.int .u8 kd) := cell_of_row _ _ 0 _ _ _ HR0.out
        have a1 : w0.cell? ⟨w.heap.size, 1, none⟩ = some (.slice AI nI cI) := cell_of_row _ _ 1 _ _ _ HR0.out
        have a2 : w0.cell? ⟨w.heap.size, 2, none⟩ = some (.slice AK nK cK) := cell_of_row _ _ 2 _ _ _ HR0.out
        have a3 : w0.cell? ⟨w.heap.size, 3, none⟩ = some (.slice AV nV cV) := cell_of_row _ _ 3 _ _ _ HR0.out
        go_quiet (fail)
        have HB1 := Lib.hid (below_drewN HB0.out nq)
        have b0 : (w0.drewN nq).cell? ⟨w.heap.size, 0, none⟩ = some (.int .u8 kd) := a0
        have b1 : (w0.drewN nq).cell? ⟨w.heap.size, 1, none⟩ = some (.slice AI nI cI) := a1
        have b2 : (w0.drewN nq).cell? ⟨w.heap.size, 2, none⟩ = some (.slice AK nK cK) := a2
        have b3 : (w0.drewN nq).cell? ⟨w.heap.size, 3, none⟩ = some (.slice AV nV cV) := a3
        clear a0 a1 a2 a3 HB0 HR0
        generalize World.drewN _ _ = W1 at *
        have q1 : ((kd : Int) == 1) = false := by rw [beq_eq_false_iff_ne]; have := H1.out; omega
        have q2 : ((kd : Int) == 2) = true := by rw [H2.out]; rfl
        go_wp2_with fail
        go_ret
        exact ⟨by rw [HX.out]; rfl, HB1.out⟩
    · have snI : ((nI : Int) == 0) = false := by rw [beq_eq_false_iff_ne]; omega
      have HX := Lib.hid (show R = false by rw [← HR.out]; simp [h1, h2, c1])
      clear HR c1
      have H1 := Lib.hid h1
      clear h1
      have H2 := Lib.hid h2
      clear h2
      go_enter Tryz.func27, Tryz.ntmps27
      go_wp2_with fail
      generalize w.alloc _ = w0 at *
      have a0 : w0.cell? ⟨w.heap.size, 0, none⟩ = some (.int .u8 kd) := cell_of_row _ _ 0 _ _ _ HR0.out
      have a1 : w0.cell? ⟨w.heap.size, 1, none⟩ = some (.slice AI nI cI) := cell_of_row _ _ 1 _ _ _ HR0.out
      have a2 : w0.cell? ⟨w.heap.size, 2, none⟩ = some (.slice AK nK cK) := cell_of_row _ _ 2 _ _ _ HR0.out
      have a3 : w0.cell? ⟨w.heap.size, 3, none⟩ = some (.slice AV nV cV) := cell_of_row _ _ 3 _ _ _ HR0.out
      go_quiet (fail)
      have HB1 := Lib.hid (below_drewN HB0.out nq)
      have b0 : (w0.drewN nq).cell? ⟨w.heap.size, 0, none⟩ = some (.int .u8 kd) := a0
      have b1 : (w0.drewN nq).cell? ⟨w.heap.size, 1, none⟩ = some (.slice AI nI cI) := a1
      have b2 : (w0.drewN nq).cell? ⟨w.heap.size, 2, none⟩ = some (.slice AK nK cK) := a2
      have b3 : (w0.drewN nq).cell? ⟨w.heap.size, 3, none⟩ = some (.slice AV nV cV) := a3
      clear a0 a1 a2 a3 HB0 HR0
      generalize World.drewN _ _ = W1 at *
      have q1 : ((kd : Int) == 1) = false := by rw [beq_eq_false_iff_ne]; have := H1.out; omega
      have q2 : ((kd : Int) == 2) = true := by rw [H2.out]; rfl
      go_wp2_with fail
      go_ret
      exact ⟨by rw [HX.out]; rfl, HB1.out⟩
  by_cases h3 : kd = 3
  · by_cases c1 : nI = 0
    · have snI : ((nI : Int) == 0) = true := by rw [beq_iff_eq]; omega
      by_cases c2 : nK = 0
      · have snK : ((nK : Int) == 0) = true := by rw [beq_iff_eq]; omega
        by_cases c3 : nV ≤ 6
        · have s3 : decide ((nV : Int) ≤ 6) = true := by rw [decide_eq_true_iff]; omega
          have HX := Lib.hid (show R = rtV none V by rw [← HR.out]; simp [h1, h2, h3, c1, c2, c3])
          clear HR c1 c2 c3
          generalize rtV none V = q at *
          cases q
          · have H1 := Lib.hid h1
            clear h1
            have H2 := Lib.hid h2
            clear h2
            have H3 := Lib.hid h3
            clear h3
            go_enter Tryz.func27, Tryz.ntmps27
            go_wp2_with fail
            generalize w.alloc _ = w0 at *
            have a0 : w0.cell? ⟨w.heap.size, 0, none⟩ = some (.int .u8 kd) := cell_of_row _ _ 0 _ _ _ HR0.out
            have a1 : w0.cell? ⟨w.heap.size, 1, none⟩ = some (.slice AI nI cI) := cell_of_row _ _ 1 _ _ _ HR0.out
            have a2 : w0.cell? ⟨w.heap.size, 2, none⟩ = some (.slice AK nK cK) := cell_of_row _ _ 2 _ _ _ HR0.out
            have a3 : w0.cell? ⟨w.heap.size, 3, none⟩ = some (.slice AV nV cV) := cell_of_row _ _ 3 _ _ _ HR0.out
            go_quiet (fail)
            have HB1 := Lib.hid (below_drewN HB0.out nq)
            have b0 : (w0.drewN nq).cell? ⟨w.heap.size, 0, none⟩ = some (.int .u8 kd) := a0
            have b1 : (w0.drewN nq).cell? ⟨w.heap.size, 1, none⟩ = some (.slice AI nI cI) := a1
            have b2 : (w0.drewN nq).cell? ⟨w.heap.size, 2, none⟩ = some (.slice AK nK cK) := a2
            have b3 : (w0.drewN nq).cell? ⟨w.heap.size, 3, none⟩ = some (.slice AV nV cV) := a3
            clear a0 a1 a2 a3 HB0 HR0
            generalize World.drewN _ _ = W1 at *
            have q1 : ((kd : Int) == 1) = false := by rw [beq_eq_false_iff_ne]; have := H1.out; omega
            have q2 : ((kd : Int) == 2) = false := by rw [beq_eq_false_iff_ne]; have := H2.out; omega
            have q3 : ((kd : Int) == 3) = true := by rw [H3.out]; rfl
            go_wp2_with (first | (go_at_call 54; refine (HCV.out _ HB1.out).mono ?_; rintro e w3 ⟨rfl, hb3⟩))
            go_ret
            exact ⟨by rw [HX.out]; rfl, HB1.out.trans (hb3.mono HB1.out.size)⟩
          · have H1 := Lib.hid h1
            clear h1
            have H2 := Lib.hid h2
            clear h2
            have H3 := Lib.hid h3
            clear h3
            go_enter Tryz.func27, Tryz.ntmps27
            go_wp2_with fail
            generalize w.alloc _ = w0 at *
            have a0 : w0.cell? ⟨w.heap.size, 0, none⟩ = some (.int .u8 kd) := cell_of_row _ _ 0 _ _ _ HR0.out
            have a1 : w0.cell? ⟨w.heap.size, 1, none⟩ = some (.slice AI nI cI) := cell_of_row _ _ 1 _ _ _ HR0.out
            have a2 : w0.cell? ⟨w.heap.size, 2, none⟩ = some (.slice AK nK cK) := cell_of_row _ _ 2 _ _ _ HR0.out
            have a3 : w0.cell? ⟨w.heap.size, 3, none⟩ = some (.slice AV nV cV) := cell_of_row _ _ 3 _ _ _ HR0.out
            go_quiet (fail)
            have HB1 := Lib.hid (below_drewN HB0.out nq)
            have b0 : (w0.drewN nq).cell? ⟨w.heap.size, 0, none⟩ = some (.int .u8 kd) := a0
            have b1 : (w0.drewN nq).cell? ⟨w.heap.size, 1, none⟩ = some (.slice AI nI cI) := a1
            have b2 : (w0.drewN nq).cell? ⟨w.heap.size, 2, none⟩ = some (.slice AK nK cK) := a2
            have b3 : (w0.drewN nq).cell? ⟨w.heap.size, 3, none⟩ = some (.slice AV nV cV) := a3
            clear a0 a1 a2 a3 HB0 HR0
            generalize World.drewN _ _ = W1 at *
            have q1 : ((kd : Int) == 1) = false := by rw [beq_eq_false_iff_ne]; have := H1.out; omega
            have q2 : ((kd : Int) == 2) = false := by rw [beq_eq_false_iff_ne]; have := H2.out; omega
            have q3 : ((kd : Int) == 3) = true := by rw [H3.out]; rfl
            go_wp2_with (first | (go_at_call 54; refine (HCV.out _ HB1.out).mono ?_; rintro e w3 ⟨rfl, hb3⟩))
            go_ret
            exact ⟨by rw [HX.out]; rfl, HB1.out.trans (hb3.mono HB1.out.size)⟩
        · have s3 : decide ((nV : Int) ≤ 6) = false := by rw [decide_eq_false_iff_not]; omega
          have HX := Lib.hid (show R = false by rw [← HR.out]; simp [h1, h2, h3, c1, c2, c3])
          clear HR c1 c2 c3
          have H1 := Lib.hid h1
          clear h1
          have H2 := Lib.hid h2
          clear h2
          have H3 := Lib.hid h3
          clear h3
          go_enter Tryz.func27, Tryz.ntmps27
          go_wp2_with fail
          generalize w.alloc _ = w0 at *
          have a0 : w0.cell? ⟨w.heap.size, 0, none⟩ = some (.int .u8 kd) := cell_of_row _ _ 0 _ _ _ HR0.out
          have a1 : w0.cell? ⟨w.heap.size, 1, none⟩ = some (.slice AI nI cI) := cell_of_row _ _ 1 _ _ _ HR0.out
          have a2 : w0.cell? ⟨w.heap.size, 2, none⟩ = some (.slice AK nK cK) := cell_of_row _ _ 2 _ _ _ HR0.out
          have a3 : w0.cell? ⟨w.heap.size, 3, none⟩ = some (.slice AV nV cV) := cell_of_row _ _ 3 _ _ _ HR0.out
          go_quiet (fail)
          have HB1 := Lib.hid (below_drewN HB0.out nq)
          have b0 : (w0.drewN nq).cell? ⟨w.heap.size, 0, none⟩ = some (.int .u8 kd) := a0
          have b1 : (w0.drewN nq).cell? ⟨w.heap.size, 1, none⟩ = some (.slice AI nI cI) := a1
          have b2 : (w0.drewN nq).cell? ⟨w.heap.size, 2, none⟩ = some (.slice AK nK cK) := a2
          have b3 : (w0.drewN nq).cell? ⟨w.heap.size, 3, none⟩ = some (.slice AV nV cV) := a3
          clear a0 a1 a2 a3 HB0 HR0
          generalize World.drewN _ _ = W1 at *
          have q1 : ((kd : Int) == 1) = false := by rw [beq_eq_false_iff_ne]; have := H1.out; omega
          have q2 : ((kd : Int) == 2) = false := by rw [beq_eq_false_iff_ne]; have := H2.out; omega
          have q3 : ((kd : Int) == 3) = true := by rw [H3.out]; rfl
          go_wp2_with fail
          go_ret
          exact ⟨by rw [HX.out]; rfl, HB1.out⟩
      · have snK : ((nK : Int) == 0) = false := by rw [beq_eq_false_iff_ne]; omega
        have HX := Lib.hid (show R = false by rw [← HR.out]; simp [h1, h2, h3, c1, c2])
        clear HR c1 c2
        have H1 := Lib.hid h1
        clear h1
        have H2 := Lib.hid h2
        clear h2
        have H3 := Lib.hid h3
        clear h3
        go_enter Tryz.func27, Tryz.ntmps27
        go_wp2_with fail
        generalize w.alloc _ = w0 at *
        have a0 : w0.cell? ⟨w.heap.size, 0, none⟩ = some (.int .u8 kd) := cell_of_row _ _ 0 _ _ _ HR0.out
        have a1 : w0.cell? ⟨w.heap.size, 1, none⟩ = some (.slice AI nI cI) := cell_of_row _ _ 1 _ _ _ HR0.out
        have a2 : w0.cell? ⟨w.heap.size, 2, none⟩ = some (.slice AK nK cK) := cell_of_row _ _ 2 _ _ _ HR0.out
        have a3 : w0.cell? ⟨w.heap.size, 3, none⟩ = some (.slice AV nV cV) := cell_of_row _ _ 3 _ _ _ HR0.out
        go_quiet (fail)
        have HB1 := Lib.hid (below_drewN HB0.out nq)
        have b0 : (w0.drewN nq).cell? ⟨w.heap.size, 0, none⟩ = some (.int .u8 kd) := a0
        have b1 : (w0.drewN nq).cell? ⟨w.heap.size, 1, none⟩ = some (.slice AI nI cI) := a1
        have b2 : (w0.drewN nq).cell? ⟨w.heap.size, 2, none⟩ = some (.slice AK nK cK) := a2
        have b3 : (w0.drewN nq).cell? ⟨w.heap.size, 3, none⟩ = some (.slice AV nV cV) := a3
        clear a0 a1 a2 a3 HB0 HR0
        generalize World.drewN _ _ = W1 at *
        have q1 : ((kd : Int) == 1) = false := by rw [beq_eq_false_iff_ne]; have := H1.out; omega
        have q2 : ((kd : Int) == 2) = false := by rw [beq_eq_false_iff_ne]; have := H2.out; omega
        have q3 : ((kd : Int) == 3) = true := by rw [H3.out]; rfl
        go_wp2_with fail
        go_ret
        exact ⟨by rw [HX.out]; rfl, HB1.out⟩
    · have snI : ((nI : Int) == 0) = false := by rw [beq_eq_false_iff_ne]; omega
      have HX := Lib.hid (show R = false by rw [← HR.out]; simp [h1, h2, h3, c1])
      clear HR c1
      have H1 := Lib.hid h1
      clear h1
      have H2 := Lib.hid h2
      clear h2
      have H3 := Lib.hid h3
      clear h3
      go_enter Tryz.func27, Tryz.ntmps27
      go_wp2_with fail
      generalize w.alloc _ = w0 at *
      have a0 : w0.cell? ⟨w.heap.size, 0, none⟩ = some (.int .u8 kd) := cell_of_row _ _ 0 _ _ _ HR0.out
      have a1 : w0.cell? ⟨w.heap.size, 1, none⟩ = some (.slice AI nI cI) := cell_of_row _ _ 1 _ _ _ HR0.out
      have a2 : w0.cell? ⟨w.heap.size, 2, none⟩ = some (.slice AK nK cK) := cell_of_row _ _ 2 _ _ _ HR0.out
      have a3 : w0.cell? ⟨w.heap.size, 3, none⟩ = some (.slice AV nV cV) := cell_of_row _ _ 3 _ _ _ HR0.out
      go_quiet (fail)
      have HB1 := Lib.hid (below_drewN HB0.out nq)
      have b0 : (w0.drewN nq).cell? ⟨w.heap.size, 0, none⟩ = some (.int .u8 kd) := a0
      have b1 : (w0.drewN nq).cell? ⟨w.heap.size, 1, none⟩ = some (.slice AI nI cI) := a1
      have b2 : (w0.drewN nq).cell? ⟨w.heap.size, 2, none⟩ = some (.slice AK nK cK) := a2
      have b3 : (w0.drewN nq).cell? ⟨w.heap.size, 3, none⟩ = some (.slice AV nV cV) := a3
      clear a0 a1 a2 a3 HB0 HR0
      generalize World.drewN _ _ = W1 at *
      have q1 : ((kd : Int) == 1) = false := by rw [beq_eq_false_iff_ne]; have := H1.out; omega
      have q2 : ((kd : Int) == 2) = false := by rw [beq_eq_false_iff_ne]; have := H2.out; omega
      have q3 : ((kd : Int) == 3) = true := by rw [H3.out]; rfl
      go_wp2_with fail
      go_ret
      exact ⟨by rw [HX.out]; rfl, HB1.out⟩
  · have HX := Lib.hid (show R = false by rw [← HR.out]; simp [h1, h2, h3])
    clear HR
    have H1 := Lib.hid h1
    clear h1
    have H2 := Lib.hid h2
    clear h2
    have H3 := Lib.hid h3
    clear h3
    go_enter Tryz.func27, Tryz.ntmps27
    go_wp2_with fail
    generalize w.alloc _ = w0 at *
    have a0 : w0.cell? ⟨w.heap.size, 0, none⟩ = some (.int .u8 kd) := cell_of_row _ _ 0 _ _ _ HR0.out
    have a1 : w0.cell? ⟨w.heap.size, 1, none⟩ = some (.slice AI nI cI) := cell_of_row _ _ 1 _ _ _ HR0.out
    have a2 : w0.cell? ⟨w.heap.size, 2, none⟩ = some (.slice AK nK cK) := cell_of_row _ _ 2 _ _ _ HR0.out
    have a3 : w0.cell? ⟨w.heap.size, 3, none⟩ = some (.slice AV nV cV) := cell_of_row _ _ 3 _ _ _ HR0.out
    go_quiet (fail)
    have HB1 := Lib.hid (below_drewN HB0.out nq)
    have b0 : (w0.drewN nq).cell? ⟨w.heap.size, 0, none⟩ = some (.int .u8 kd) := a0
    have b1 : (w0.drewN nq).cell? ⟨w.heap.size, 1, none⟩ = some (.slice AI nI cI) := a1
    have b2 : (w0.drewN nq).cell? ⟨w.heap.size, 2, none⟩ = some (.slice AK nK cK) := a2
    have b3 : (w0.drewN nq).cell? ⟨w.heap.size, 3, none⟩ = some (.slice AV nV cV) := a3
    clear a0 a1 a2 a3 HB0 HR0
    generalize World.drewN _ _ = W1 at *
    have q1 : ((kd : Int) == 1) = false := by rw [beq_eq_false_iff_ne]; have := H1.out; omega
    have q2 : ((kd : Int) == 2) = false := by rw [beq_eq_false_iff_ne]; have := H2.out; omega
    have q3 : ((kd : Int) == 3) = false := by rw [beq_eq_false_iff_ne]; have := H3.out; omega
    go_wp2_with fail
    go_ret
    exact ⟨by rw [HX.out]; rfl, HB1.out⟩
set_option maxRecDepth 100000 in
set_option maxHeartbeats 4000000 in
theorem check_any (n : Nd) (hw : Wd n) (cs : Array Value) (w : World) (hn : NdAt w cs n) :
    Calls Tryz.prog 12 #[.agg cs] w fun e w' => e = .returned (.int .i64 (ckN n)) ∧ Below w.heap.size w w' := by
  have hcz := hn.size
  have HI := Lib.hid (show (Tryz.prog.info? 27).map (·.size) = some cs.size by rw [hcz]; kernel_rfl)
  have hb0 : Below w.heap.size w (w.alloc (.cells cs 27)) := (Below.refl _ _).alloc (Nat.le_refl _) _
  have HB0 := Lib.hid hb0
  have HR0 := Lib.hid (heap_alloc_new w (.cells cs 27))
  have HN := Lib.hid hn
  have HC1 := Lib.hid (fun w' (hb : Below w.heap.size w w') => right_any n hw cs w' (hn.below hb))
  clear hb0 hcz
  by_cases hr : rtN n = true
  · have HC2 := Lib.hid (fun w' (hb : Below w.heap.size w w') => size_any n (rt_few hr) cs w' (hn.below hb))
    rw [hr] at HC1
    obtain ⟨C, hC⟩ : ∃ C, ckN n = C := ⟨_, rfl⟩
    have HX := Lib.hid (show C = if 508 < szN n then 2 else 0 by rw [← hC]; unfold ckN; rw [if_pos hr])
    rw [hC]
    clear hC hr hn
    generalize szN n = Z at *
    by_cases hz : 508 < Z
    · have q : decide ((508 : Int) < (Z : Int)) = true := by rw [decide_eq_true_iff]; omega
      have HX2 := Lib.hid (show C = 2 by rw [HX.out, if_pos hz])
      clear HX hz
      go_enter Tryz.func12, Tryz.ntmps12
      go_wp2_with (first
        | (refine wpList_load_row rfl 27 (.tmp 1) rfl w.heap.size rfl 27 cs (0, 0) _ HR0.out Tryz.underlying27 rfl HI.out ?_)
        | (go_at_call 27; refine (HC1.out _ HB0.out).mono ?_; rintro e w3 ⟨rfl, hb3⟩; have HB3 := Lib.hid (HB0.out.trans (hb3.mono HB0.out.size)); have HR3 := Lib.hid ((hb3.block _ (row_lt HR0.out)).trans HR0.out); clear hb3)
        | (refine wpList_load_row rfl 27 (.tmp 1) rfl w.heap.size rfl 27 cs (0, 0) _ HR3.out Tryz.underlying27 rfl HI.out ?_)
        | (go_at_call 14; refine (HC2.out _ HB3.out).mono ?_; rintro e w4 ⟨rfl, hb4, hz4⟩; have HB4 := Lib.hid (HB3.out.trans (hb4.mono HB3.out.size)); clear hb4))
      go_ret
      exact ⟨by rw [HX2.out]; rfl, HB4.out⟩
    · have q : decide ((508 : Int) < (Z : Int)) = false := by rw [decide_eq_false_iff_not]; omega
      have HX2 := Lib.hid (show C = 0 by rw [HX.out, if_neg hz])
      clear HX hz
      go_enter Tryz.func12, Tryz.ntmps12
      go_wp2_with (first
        | (refine wpList_load_row rfl 27 (.tmp 1) rfl w.heap.size rfl 27 cs (0, 0) _ HR0.out Tryz.underlying27 rfl HI.out ?_)
        | (go_at_call 27; refine (HC1.out _ HB0.out).mono ?_; rintro e w3 ⟨rfl, hb3⟩; have HB3 := Lib.hid (HB0.out.trans (hb3.mono HB0.out.size)); have HR3 := Lib.hid ((hb3.block _ (row_lt HR0.out)).trans HR0.out); clear hb3)
        | (refine wpList_load_row rfl 27 (.tmp 1) rfl w.heap.size rfl 27 cs (0, 0) _ HR3.out Tryz.underlying27 rfl HI.out ?_)
        | (go_at_call 14; refine (HC2.out _ HB3.out).mono ?_; rintro e w4 ⟨rfl, hb4, hz4⟩; have HB4 := Lib.hid (HB3.out.trans (hb4.mono HB3.out.size)); clear hb4))
      go_ret
      exact ⟨by rw [HX2.out]; rfl, HB4.out⟩
  · have hr : rtN n = false := by simpa using hr
    rw [hr] at HC1
    have HX2 := Lib.hid (show ckN n = 4 by unfold ckN; rw [hr]; rfl)
    rw [HX2.out]
    clear hr hn
    go_enter Tryz.func12, Tryz.ntmps12
    go_wp2_with (first
      | (refine wpList_load_row rfl 27 (.tmp 1) rfl w.heap.size rfl 27 cs (0, 0) _ HR0.out Tryz.underlying27 rfl HI.out ?_)
      | (go_at_call 27; refine (HC1.out _ HB0.out).mono ?_; rintro e w3 ⟨rfl, hb3⟩))
    go_ret
    exact ⟨rfl, HB0.out.trans (hb3.mono HB0.out.size)⟩
end Go.Proofs.YtnfcgifkghegjaaGreatDoor.Nd
/- Contract of package node's written: a node's bytes, by strings.Builder. -/
namespace Go.Proofs.YtnfcgifkghegjaaGreatDoor.Nd
set_option linter.unusedVariables false
set_option linter.unusedSimpArgs false
open Go.ChangeShapes Go.WideShapes Go.ChangeAt Go.RowKit
open Ar Rg
open BigFrame
open Pk (be num be_length u8s u8s_length)
open It (str_le below_drewN)
/-- a builder of the call's own, in block b -/
abbrev Bld (w : World) (B b : Nat) (L : List UInt8) : Prop := Lib.IsBuilder 72 5 B b (Lib.byteCells L) w
theorem bat_below {T e : TypeId} {B b : Nat} {p : Value} {l : List Value} {w w' : World} (h : Lib.BuilderAt T e B b p l w) (hb : Below w.heap.size w w') : Lib.BuilderAt T e B b p l w' := by
  have hlt := h.lt
  obtain ⟨hB, v, h0, hown, hne⟩ := h
  exact ⟨hB, v, (hb.block b hlt).trans h0, hown.kept ⟨hb.os, hb.tape, hb.output, hb.size, fun k hk _ => hb.block k hk⟩ (Classical.em _), hne⟩
theorem Bld.below {w w' : World} {B b : Nat} {L : List UInt8} (h : Bld w B b L) (hb : Below w.heap.size w w') : Bld w' B b L := h.elim (fun h => .inl (bat_below h hb)) (fun h => .inr (bat_below h hb))
theorem write_bd {w : World} {B b : Nat} {L : List UInt8} (h : Bld w B b L) (l : List UInt8) (hlen : L.length + l.length ≤ 140737488355328) (hBw : B ≤ w.heap.size) :
    Calls Tryz.prog 33 #[.pointer (some ⟨b, 0, none⟩), .string (bs l)] w fun e w' => e = .returned (.tuple #[.int .i64 l.length, .nilIface]) ∧ Bld w' B b (L ++ l) ∧ Below B w w' := by
  have := Any.Builder_WriteString Tryz.part166 Tryz.Builder_Extra_105 B b (Lib.byteCells L) (bs l) w h (by rw [Lib.byteCells_length, bs_size]; exact hlen) hBw
  refine this.mono fun e w' h => ?_
  obtain ⟨h1, h2, h3⟩ := h
  rw [bs_size] at h1
  refine ⟨h1, .inr ?_, h3⟩
  rw [Lib.byteCells_append]
  exact h2
theorem string_bd {w : World} {B b : Nat} {L : List UInt8} (h : Bld w B b L) (hBw : B ≤ w.heap.size) :
    Calls Tryz.prog 36 #[.pointer (some ⟨b, 0, none⟩)] w fun e w' => e = .returned (.string (bs L)) ∧ Below B w w' := Any.Builder_String_any Tryz.part169 Tryz.Builder_Extra_105 B b L w h hBw
/-- where the writing stands -/
def Wst (W : World) (b : Nat) (L : List UInt8) (M : Nat) (wr : World) : Prop := Bld wr b b L ∧ Below b W wr ∧ b ≤ wr.heap.size ∧ L.length ≤ M
theorem Wst.next {W wr w2 w3 : World} {b M m : Nat} {L l : List UInt8} (h : Wst W b L M wr) (hb : Below wr.heap.size wr w2) (h3 : Bld w3 b b (L ++ l)) (hb3 : Below b w2 w3) (hl : l.length ≤ m) : Wst W b (L ++ l) (M + m) w3 := by
  obtain ⟨h1, h2, h4, h5⟩ := h
  have q : Below b wr w2 := hb.mono h4
  refine ⟨h3, (h2.trans q).trans hb3, Nat.le_trans h4 (Nat.le_trans hb.size hb3.size), ?_⟩
  rw [List.length_append]; omega
theorem flat_snoc {α : Type} (f : α → List UInt8) {D : List α} {i : Nat} {x : α} (h : D[i]? = some x) (L : List UInt8) : L ++ (D.take (i + 1)).flatMap f = L ++ (D.take i).flatMap f ++ f x := by
  obtain ⟨hk, e⟩ := List.getElem?_eq_some_iff.1 h
  rw [List.take_succ_eq_append_getElem hk, e, List.flatMap_append, List.append_assoc]
  simp
/-- the bytes of an array's cells, read as a text -/
theorem conv_hash {w' : World} {q o : Nat} {l : List UInt8} (h : l.length = 32) (hr : w'.rangeAt q o (u8s l)) :
    (convert 70 9 (.slice (some ⟨q, o, none⟩) 32 32)).run Tryz.prog w' = .ok (.string (bs l)) w' := by
  have := run_convert_bytes_back (P := Tryz.prog) w' 70 9 5 ⟨q, o, none⟩ 32 l Tryz.underlying70 Tryz.underlying5 Tryz.underlying9 (fun j hj => by
    rw [Ar.add_plain]
    exact hr j _ (by unfold u8s; rw [List.getElem?_map, List.getElem?_eq_getElem hj]; rfl))
  rw [h] at this
  exact this
abbrev txt (s : ByteArray) : List UInt8 := be 1 s.data.toList.length ++ s.data.toList
theorem txt_len (s : ByteArray) : (txt s).length = 1 + s.size := by
  rw [List.length_append, be_length, Array.length_toList]; rfl
theorem bs_le' (l : List UInt8) (m : Nat) (h : l.length ≤ m) : (bs l).size ≤ m := by rw [bs_size]; exact h
set_option maxRecDepth 100000 in
set_option maxHeartbeats 8000000 in
theorem written_any (n : Nd) (hf : Fm n) (cs : Array Value) (w : World) (hn : NdAt w cs n) :
    Calls Tryz.prog 17 #[.agg cs] w fun e w' => e = .returned (.string (bs (wN n))) ∧ Below w.heap.size w w' := by
  obtain ⟨AI, nI, dI, AK, nK, dK, AV, nV, dV, rfl, hI, hK, hV, bI, bK, bV, lI, lK, lV⟩ := hn
  obtain ⟨kd, I, K, V⟩ := n
  obtain ⟨hkd, few, okI, okK, okV⟩ := hf
  dsimp only at hI hK hV lI lK lV hkd few okI okK okV ⊢
  have hk8 : kd < 256 := by omega
  clear hkd
  rw [← hI, ← hK, ← hV] at few
  have HI := Lib.hid hI
  have HK := Lib.hid hK
  have HV := Lib.hid hV
  have HLI := Lib.hid lI
  have HLK := Lib.hid lK
  have HLV := Lib.hid lV
  have HOI := Lib.hid okI
  have HOK := Lib.hid okK
  have HOV := Lib.hid okV
  obtain ⟨L0, hL0⟩ : ∃ L0, be 1 kd ++ be 1 (nI + nK + nV) = L0 := ⟨_, rfl⟩
  have HWN := Lib.hid (show wN ⟨kd, I, K, V⟩ = L0 ++ I.flatMap cI.wr ++ K.flatMap cK.wr ++ V.flatMap cV.wr by
    unfold wN
    dsimp only
    rw [← hI, ← hK, ← hV, ← hL0]
    simp only [List.append_assoc])
  have HL0 := Lib.hid (show L0.length ≤ 2 by rw [← hL0, List.length_append, be_length, be_length]; omega)
  have HN1 := Lib.hid (show ∀ w, Calls Tryz.prog 34 #[.int .u64 (kd : Int), .int .i64 1] w fun e w' => e = .returned (.string (bs (be 1 kd))) ∧ Below w.heap.size w w' from fun w => number_be kd 1 w (by omega) (by omega) (by omega))
  have HN2 := Lib.hid (show ∀ w, Calls Tryz.prog 34 #[.int .u64 ((nI : Int) + (nK : Int) + (nV : Int)), .int .i64 1] w fun e w' => e = .returned (.string (bs (be 1 (nI + nK + nV)))) ∧ Below w.heap.size w w' from fun w => number_be (nI + nK + nV) 1 w (by omega) (by omega) (by omega))
  have HE0 := Lib.hid (show bs (be 1 kd) ++ bs (be 1 (nI + nK + nV)) = bs L0 by rw [bs_app, hL0])
  have z1 : (bs (be 1 kd)).size ≤ 1 := by rw [bs_size, be_length]; omega
  have z2 : (bs (be 1 (nI + nK + nV))).size ≤ 1 := by rw [bs_size, be_length]; omega
  clear hL0 hI hK hV lI lK lV okI okK okV
  generalize bs (be 1 kd) = S1 at *
  generalize bs (be 1 (nI + nK + nV)) = S2 at *
  obtain ⟨R1, R2, S0, Z0⟩ := two_new w #[.int .u8 (kd : Int), .slice AI nI dI, .slice AK nK dK, .slice AV nV dV] #[.pointer none, .slice none 0 0] 27 72
  have HR1 := Lib.hid R1
  have HS0 := Lib.hid S0
  have HZ0 := Lib.hid (show w.heap.size + 1 ≤ ((w.alloc (.cells #[.int .u8 (kd : Int), .slice AI nI dI, .slice AK nK dK, .slice AV nV dV] 27)).alloc (.cells #[.pointer none, .slice none 0 0] 72)).heap.size by rw [Z0]; exact Nat.le_succ _)
  have HBD := Lib.hid (show Bld ((w.alloc (.cells #[.int .u8 (kd : Int), .slice AI nI dI, .slice AK nK dK, .slice AV nV dV] 27)).alloc (.cells #[.pointer none, .slice none 0 0] 72)) (w.heap.size + 1) (w.heap.size + 1) [] by
    have := Lib.fresh_isBuilder 72 5 (w.alloc (.cells #[.int .u8 (kd : Int), .slice AI nI dI, .slice AK nK dK, .slice AV nV dV] 27))
    rw [show (w.alloc (.cells #[.int .u8 (kd : Int), .slice AI nI dI, .slice AK nK dK, .slice AV nV dV] 27)).heap.size = w.heap.size + 1 by simp] at this
    exact this)
  clear R1 R2 S0 Z0
  go_enter Tryz.func17, Tryz.ntmps17
  go_wp2_with fail
  generalize (w.alloc _).alloc _ = W2 at *
  go_at_call 34
  refine (HN1.out _).mono ?_
  rintro e w3 ⟨rfl, hb3⟩
  have B3 := Lib.hid hb3
  clear hb3
  go_wp2_with fail
  go_at_call 34
  refine (HN2.out _).mono ?_
  rintro e w4 ⟨rfl, hb4⟩
  have B4 := Lib.hid (B3.out.trans (hb4.mono B3.out.size))
  clear hb4 B3
  go_wp2_with fail
  rw [HE0.out]
  go_at_call 33
  refine (write_bd (HBD.out.below B4.out) L0 (by have := HL0.out; simp; omega) (Nat.le_trans HZ0.out B4.out.size)).mono ?_
  rintro e w5 ⟨rfl, hd5, hb5⟩
  have D5 := Lib.hid hd5
  have B5 := Lib.hid ((B4.out.mono HZ0.out).trans hb5)
  have HR5 := Lib.hid ((B5.out.block w.heap.size (Nat.lt_succ_self _)).trans HR1.out)
  have HB5 := Lib.hid (HS0.out.trans (B5.out.mono (Nat.le_succ _)))
  have HZ5 := Lib.hid (Nat.le_trans HZ0.out B5.out.size)
  clear hd5 hb5 B4 HBD HS0 HZ0 HR1 HN1 HN2 HE0 B5 z1 z2
  have m1 : w5.cell? ⟨w.heap.size, 1, none⟩ = some (.slice AI nI dI) := cell_of_row _ _ 1 _ _ _ HR5.out
  go_wp2_with fail
  go_loopw [34] (fun v wr => ∃ i : Nat, i ≤ nI ∧ v = .int .i64 i ∧ Hid (Wst w5 (w.heap.size + 1) (L0 ++ (I.take i).flatMap cI.wr) (2 + i * 600) wr)) (fun v _ => nI - (intOf v).toNat)
  case atStart => exact ⟨0, Nat.zero_le _, by go_num, ⟨by simpa using D5.out, Below.refl _ _, HZ5.out, by simpa using HL0.out⟩⟩
  case round =>
    obtain ⟨i, hi, rfl, hst⟩ := hrel
    by_cases hlt : i < nI
    · obtain ⟨x, hx⟩ : ∃ x, I[i]? = some x := ⟨_, List.getElem?_eq_getElem (by rw [← HI.out]; exact hlt)⟩
      have hok := HOI.out x (List.mem_of_getElem? hx)
      have hk1 : x.k.size < 256 := by have h : x.k.data.toList.length < 256 := hok.1; rw [Array.length_toList] at h; exact h
      have hk2 : x.v.size < 256 := by have h : x.v.data.toList.length < 256 := hok.2; rw [Array.length_toList] at h; exact h
      have HW := Lib.hid hst
      have hBe : Below w.heap.size w wr := HB5.out.trans ((Hid.out hst).2.1.mono (Nat.le_succ _))
      obtain ⟨b, o, hAe, hb, hr⟩ := (HLI.out.below hBe) i x hx
      have hbs : b < wr.heap.size := Nat.lt_of_lt_of_le hb hBe.size
      have HSN := Lib.hid (flat_snoc cI.wr hx (L0))
      have HT0 := Lib.hid (fun w => text_at x.k w (by omega))
      have zt0 : (bs (txt x.k)).size ≤ 256 := bs_le' _ _ (by rw [txt_len]; omega)
      obtain ⟨T0, hT0⟩ : ∃ T, txt x.k = T := ⟨_, rfl⟩
      have HT1 := Lib.hid (fun w => text_at x.v w (by omega))
      have zt1 : (bs (txt x.v)).size ≤ 256 := bs_le' _ _ (by rw [txt_len]; omega)
      obtain ⟨T1, hT1⟩ : ∃ T, txt x.v = T := ⟨_, rfl⟩
      have HLW := Lib.hid (show cI.wr x = (T0 ++ T1) by rw [← hT0, ← hT1]; simp only [List.append_assoc]; rfl)
      have HLEN := Lib.hid (show (cI.wr x).length ≤ 600 by rw [wrI_len]; unfold szI; omega)
      have HEA := Lib.hid (show bs T0 ++ bs T1 = bs (T0 ++ T1) by simp only [bs_app])
      rw [show (be 1 x.k.data.toList.length ++ x.k.data.toList) = T0 from hT0] at HT0
      rw [hT0] at zt0
      rw [show (be 1 x.v.data.toList.length ++ x.v.data.toList) = T1 from hT1] at HT1
      rw [hT1] at zt1
      have HST := Lib.hid hst
      have hc0 : wr.cell? ⟨b, o + i * 2, none⟩ = some (.string x.k) := hr 0 _ rfl
      have hc1 : wr.cell? ⟨b, o + i * 2 + 1, none⟩ = some (.string x.v) := hr 1 _ rfl
      have HQL := Lib.hid (show wr.heap.size < (wr.alloc (.cells #[.string x.k, .string x.v] 61)).heap.size by simp)
      have HBW := Lib.hid (show Below wr.heap.size wr (wr.alloc (.cells #[.string x.k, .string x.v] 61)) from (Below.refl _ _).alloc (Nat.le_refl _) _)
      have HC0 := Lib.hid (show (wr.alloc (.cells #[.string x.k, .string x.v] 61)).cell? ⟨wr.heap.size, 0, none⟩ = some (.string x.k) by simp)
      have HC1 := Lib.hid (show (wr.alloc (.cells #[.string x.k, .string x.v] 61)).cell? ⟨wr.heap.size, 1, none⟩ = some (.string x.v) by simp)
      clear hr hx hst hBe hok hT0 hT1
      subst hAe
      go_wp2_with fail
      generalize wr.alloc _ = W at *
      refine wp_region_S (fun w' => Below W.heap.size W w') 7 (by kernel_rfl) (by kernel_rfl) (by kernel_rfl) ((Below.refl _ _).drew) ?_
      simp only [List.take_succ_cons, List.take_zero]
      refine wpG_val (.pointer (some ⟨wr.heap.size, 0, none⟩)) rfl (by rfl) (fun w' hSw => by go_simp) ?_
      simp only [List.setIfInBounds_toArray, List.set_cons_zero, List.set_cons_succ]
      refine wpG_val (.string x.k) rfl (by rfl) (fun w' hSw => by have c := (hSw.cell (p := ⟨wr.heap.size, 0, none⟩) HQL.out).trans HC0.out; go_simp) ?_
      simp only [List.setIfInBounds_toArray, List.set_cons_zero, List.set_cons_succ]
      refine wpG_call (.string (bs T0)) 35 #[.string x.k] rfl (by rfl) (fun w' => by go_simp) (fun w' hSw => (HT0.out w').mono fun e w2 h => ⟨h.1, hSw.trans (h.2.mono hSw.size)⟩) ?_
      simp only [List.setIfInBounds_toArray, List.set_cons_zero, List.set_cons_succ]
      refine wpG_val (.pointer (some ⟨wr.heap.size, 1, none⟩)) rfl (by rfl) (fun w' hSw => by go_simp) ?_
      simp only [List.setIfInBounds_toArray, List.set_cons_zero, List.set_cons_succ]
      refine wpG_val (.string x.v) rfl (by rfl) (fun w' hSw => by have c := (hSw.cell (p := ⟨wr.heap.size, 1, none⟩) HQL.out).trans HC1.out; go_simp) ?_
      simp only [List.setIfInBounds_toArray, List.set_cons_zero, List.set_cons_succ]
      refine wpG_call (.string (bs T1)) 35 #[.string x.v] rfl (by rfl) (fun w' => by go_simp) (fun w' hSw => (HT1.out w').mono fun e w2 h => ⟨h.1, hSw.trans (h.2.mono hSw.size)⟩) ?_
      simp only [List.setIfInBounds_toArray, List.set_cons_zero, List.set_cons_succ]
      refine wpG_val (.string (bs T0 ++ bs T1)) rfl (by rfl) (fun w' hSw => by go_simp <;> omega) ?_
      simp only [List.setIfInBounds_toArray, List.set_cons_zero, List.set_cons_succ]
      refine wpG_nil ?_
      intro wS hSw
      simp only [List.drop_succ_cons, List.drop_zero]
      go_wp2_with fail
      rw [HEA.out, ← HLW.out]
      go_at_call 33
      refine (write_bd ((HST.out.1.below HBW.out).below hSw) (cI.wr x) (by have h1 := HST.out.2.2.2; have h2 := HLEN.out; omega) (Nat.le_trans HST.out.2.2.1 (Nat.le_trans HBW.out.size hSw.size))).mono ?_
      rintro e w6 ⟨rfl, hd6, hb6⟩
      have HN6 := Lib.hid (HST.out.next (HBW.out.trans (hSw.mono HBW.out.size)) hd6 hb6 HLEN.out)
      rw [← HSN.out, show 2 + i * 600 + 600 = 2 + (i + 1) * 600 by omega] at HN6
      clear hd6 hb6 hSw HST HBW
      go_wp2_with fail
      exact ⟨⟨i + 1, by omega, by go_num, HN6.out⟩, by simp [intOf] <;> omega⟩
    · have HEI := Lib.hid (show Wst w5 (w.heap.size + 1) (L0 ++ I.flatMap cI.wr) (2 + nI * 600) wr by have h := Hid.out hst; rw [List.take_of_length_le (by rw [← HI.out]; omega), show i = nI by omega] at h; exact h)
      clear hst
      have m2 : wr.cell? ⟨w.heap.size, 2, none⟩ = some (.slice AK nK dK) := cell_of_row _ _ 2 _ _ _ ((HEI.out.2.1.block w.heap.size (Nat.lt_succ_self _)).trans HR5.out)
      go_wp2_with fail
      clear hlt hi
      go_loopw [50] (fun v wr => ∃ i : Nat, i ≤ nK ∧ v = .int .i64 i ∧ Hid (Wst w5 (w.heap.size + 1) (L0 ++ I.flatMap cI.wr ++ (K.take i).flatMap cK.wr) (2 + nI * 600 + i * 600) wr)) (fun v _ => nK - (intOf v).toNat)
      case atStart => exact ⟨0, Nat.zero_le _, by go_num, by show Wst _ _ (_ ++ (K.take 0).flatMap _) (_ + 0 * 600) _; rw [List.take_zero, List.flatMap_nil, List.append_nil, Nat.zero_mul, Nat.add_zero]; exact HEI.out⟩
      case round =>
        obtain ⟨i, hi, rfl, hst⟩ := hrel
        by_cases hlt : i < nK
        · obtain ⟨x, hx⟩ : ∃ x, K[i]? = some x := ⟨_, List.getElem?_eq_getElem (by rw [← HK.out]; exact hlt)⟩
          have hok := HOK.out x (List.mem_of_getElem? hx)
          have hk1 : x.k.size < 256 := by have h : x.k.data.toList.length < 256 := hok.1; rw [Array.length_toList] at h; exact h
          have hk2 : x.n < 4294967296 := hok.2.1
          have hxl : x.hs.length = 32 := hok.2.2
          have HW := Lib.hid hst
          have hBe : Below w.heap.size w wr := HB5.out.trans ((Hid.out hst).2.1.mono (Nat.le_succ _))
          obtain ⟨b, o, hAe, hb, hr⟩ := (HLK.out.below hBe) i x hx
          have hbs : b < wr.heap.size := Nat.lt_of_lt_of_le hb hBe.size
          have HSN := Lib.hid (flat_snoc cK.wr hx (L0 ++ I.flatMap cI.wr))
          have HT0 := Lib.hid (fun w => text_at x.k w (by omega))
          have zt0 : (bs (txt x.k)).size ≤ 256 := bs_le' _ _ (by rw [txt_len]; omega)
          obtain ⟨T0, hT0⟩ : ∃ T, txt x.k = T := ⟨_, rfl⟩
          have HT1 := Lib.hid (show ∀ w, Calls Tryz.prog 34 #[.int .u64 (x.n : Int), .int .i64 4] w fun e w' => e = .returned (.string (bs (be 4 x.n))) ∧ Below w.heap.size w w' from fun w => number_be x.n 4 w (by omega) (by omega) (by omega))
          have zt1 : (bs (be 4 x.n)).size ≤ 256 := bs_le' _ _ (by rw [be_length]; omega)
          obtain ⟨T1, hT1⟩ : ∃ T, be 4 x.n = T := ⟨_, rfl⟩
          have zt2 : (bs x.hs).size ≤ 256 := bs_le' _ _ (by omega)
          obtain ⟨T2, hT2⟩ : ∃ T, x.hs = T := ⟨_, rfl⟩
          have HLW := Lib.hid (show cK.wr x = ((T0 ++ T1) ++ T2) by rw [← hT0, ← hT1, ← hT2]; simp only [List.append_assoc]; rfl)
          have HLEN := Lib.hid (show (cK.wr x).length ≤ 600 by rw [wrK_len hok]; unfold szK; omega)
          have HEA := Lib.hid (show bs T0 ++ bs T1 ++ bs T2 = bs ((T0 ++ T1) ++ T2) by simp only [bs_app])
          rw [show (be 1 x.k.data.toList.length ++ x.k.data.toList) = T0 from hT0] at HT0
          rw [hT0] at zt0
          rw [hT1] at HT1 zt1
          rw [hT2] at zt2
          have HH := Lib.hid hT2
          have HST := Lib.hid hst
          have HRG := Lib.hid hr
          have HXL := Lib.hid hxl
          clear hr hx hst hBe hok hxl hT0 hT1 hT2
          subst hAe
          go_wp2_with (first
            | (refine wpList_load_at rfl 55 (.tmp 52) rfl b (o + i * 34) rfl (ecK x) _ HRG.out Tryz.underlying55 rfl (infoKs x) ?_)
            | (refine wpList_fresh rfl 55 (.tmp 8) (.tmp 53) rfl (ecK x).toArray _ _ rfl rfl (infoKa x) (ecK_sz x) (all_of_one (ecK_one x)) ?_; intro W hb1 hr1 hz1; have HBW := Lib.hid hb1; have HQL := Lib.hid (show wr.heap.size < W.heap.size by rw [hz1]; exact Nat.lt_succ_self _); have HRW := Lib.hid hr1; have HC0 := Lib.hid (show W.cell? ⟨wr.heap.size, 0, none⟩ = some (.string x.k) from cell_of_row _ _ 0 _ _ _ hr1); have HC1 := Lib.hid (show W.cell? ⟨wr.heap.size, 1, none⟩ = some (.int .u32 x.n) from cell_of_row _ _ 1 _ _ _ hr1); clear hr1 hz1 hb1 HRG))
          refine wp_region_S (fun w' => Below W.heap.size W w') 12 (by kernel_rfl) (by kernel_rfl) (by kernel_rfl) ((Below.refl _ _).drew) ?_
          simp only [List.take_succ_cons, List.take_zero]
          refine wpG_val (.pointer (some ⟨wr.heap.size, 0, none⟩)) rfl (by rfl) (fun w' hSw => by go_simp) ?_
          simp only [List.setIfInBounds_toArray, List.set_cons_zero, List.set_cons_succ]
          refine wpG_val (.string x.k) rfl (by rfl) (fun w' hSw => by have c := (hSw.cell (p := ⟨wr.heap.size, 0, none⟩) HQL.out).trans HC0.out; go_simp) ?_
          simp only [List.setIfInBounds_toArray, List.set_cons_zero, List.set_cons_succ]
          refine wpG_call (.string (bs T0)) 35 #[.string x.k] rfl (by rfl) (fun w' => by go_simp) (fun w' hSw => (HT0.out w').mono fun e w2 h => ⟨h.1, hSw.trans (h.2.mono hSw.size)⟩) ?_
          simp only [List.setIfInBounds_toArray, List.set_cons_zero, List.set_cons_succ]
          refine wpG_val (.pointer (some ⟨wr.heap.size, 1, none⟩)) rfl (by rfl) (fun w' hSw => by go_simp) ?_
          simp only [List.setIfInBounds_toArray, List.set_cons_zero, List.set_cons_succ]
          refine wpG_val (.int .u32 x.n) rfl (by rfl) (fun w' hSw => by have c := (hSw.cell (p := ⟨wr.heap.size, 1, none⟩) HQL.out).trans HC1.out; go_simp) ?_
          simp only [List.setIfInBounds_toArray, List.set_cons_zero, List.set_cons_succ]
          refine wpG_val (.int .u64 x.n) rfl (by rfl) (fun w' hSw => by go_simp; rw [IntKind.wrap_u64]; omega) ?_
          simp only [List.setIfInBounds_toArray, List.set_cons_zero, List.set_cons_succ]
          refine wpG_call (.string (bs T1)) 34 #[.int .u64 x.n, .int .i64 4] rfl (by rfl) (fun w' => by go_simp) (fun w' hSw => (HT1.out w').mono fun e w2 h => ⟨h.1, hSw.trans (h.2.mono hSw.size)⟩) ?_
          simp only [List.setIfInBounds_toArray, List.set_cons_zero, List.set_cons_succ]
          refine wpG_val (.string (bs T0 ++ bs T1)) rfl (by rfl) (fun w' hSw => by go_simp <;> omega) ?_
          simp only [List.setIfInBounds_toArray, List.set_cons_zero, List.set_cons_succ]
          refine wpG_val (.pointer (some ⟨wr.heap.size, 2, none⟩)) rfl (by rfl) (fun w' hSw => by go_simp) ?_
          simp only [List.setIfInBounds_toArray, List.set_cons_zero, List.set_cons_succ]
          refine wpG_val (.slice (some ⟨wr.heap.size, 2, none⟩) 32 32) rfl (by rfl) (fun w' hSw => by go_simp) ?_
          simp only [List.setIfInBounds_toArray, List.set_cons_zero, List.set_cons_succ]
          refine wpG_val (.string (bs T2)) rfl (by rfl) (fun w' hSw => by have c := conv_hash (q := wr.heap.size) (o := 2) (show T2.length = 32 by rw [← HH.out]; exact HXL.out) (rangeAt_row ((hSw.block _ HQL.out).trans HRW.out) (fun a v hv => by rw [← HH.out] at hv; unfold ecK; rw [fix_of HXL.out, List.getElem?_toArray, Nat.add_comm 2 a]; exact hv)); go_simp) ?_
          simp only [List.setIfInBounds_toArray, List.set_cons_zero, List.set_cons_succ]
          refine wpG_val (.string (bs T0 ++ bs T1 ++ bs T2)) rfl (by rfl) (fun w' hSw => by go_simp <;> omega) ?_
          simp only [List.setIfInBounds_toArray, List.set_cons_zero, List.set_cons_succ]
          refine wpG_nil ?_
          intro wS hSw
          simp only [List.drop_succ_cons, List.drop_zero]
          go_wp2_with fail
          rw [HEA.out, ← HLW.out]
          go_at_call 33
          refine (write_bd ((HST.out.1.below HBW.out).below hSw) (cK.wr x) (by have h1 := HST.out.2.2.2; have h2 := HLEN.out; omega) (Nat.le_trans HST.out.2.2.1 (Nat.le_trans HBW.out.size hSw.size))).mono ?_
          rintro e w6 ⟨rfl, hd6, hb6⟩
          have HN6 := Lib.hid (HST.out.next (HBW.out.trans (hSw.mono HBW.out.size)) hd6 hb6 HLEN.out)
          rw [← HSN.out, show 2 + nI * 600 + i * 600 + 600 = 2 + nI * 600 + (i + 1) * 600 by omega] at HN6
          clear hd6 hb6 hSw HST HBW
          go_wp2_with fail
          exact ⟨⟨i + 1, by omega, by go_num, HN6.out⟩, by simp [intOf] <;> omega⟩
        · have HEK := Lib.hid (show Wst w5 (w.heap.size + 1) (L0 ++ I.flatMap cI.wr ++ K.flatMap cK.wr) (2 + nI * 600 + nK * 600) wr by have h := Hid.out hst; rw [List.take_of_length_le (by rw [← HK.out]; omega), show i = nK by omega] at h; exact h)
          clear hst
          have m3 : wr.cell? ⟨w.heap.size, 3, none⟩ = some (.slice AV nV dV) := cell_of_row _ _ 3 _ _ _ ((HEK.out.2.1.block w.heap.size (Nat.lt_succ_self _)).trans HR5.out)
          go_wp2_with fail
          clear hlt hi
          go_loopw [71] (fun v wr => ∃ i : Nat, i ≤ nV ∧ v = .int .i64 i ∧ Hid (Wst w5 (w.heap.size + 1) (L0 ++ I.flatMap cI.wr ++ K.flatMap cK.wr ++ (V.take i).flatMap cV.wr) (2 + nI * 600 + nK * 600 + i * 600) wr)) (fun v _ => nV - (intOf v).toNat)
          case atStart => exact ⟨0, Nat.zero_le _, by go_num, by show Wst _ _ (_ ++ (V.take 0).flatMap _) (_ + 0 * 600) _; rw [List.take_zero, List.flatMap_nil, List.append_nil, Nat.zero_mul, Nat.add_zero]; exact HEK.out⟩
          case round =>
            obtain ⟨i, hi, rfl, hst⟩ := hrel
            by_cases hlt : i < nV
            · obtain ⟨x, hx⟩ : ∃ x, V[i]? = some x := ⟨_, List.getElem?_eq_getElem (by rw [← HV.out]; exact hlt)⟩
              have hok := HOV.out x (List.mem_of_getElem? hx)
              have hk1 : x.nm.size < 256 := by have h : x.nm.data.toList.length < 256 := hok.1; rw [Array.length_toList] at h; exact h
              have hk2 : x.fr.size < 256 := by have h : x.fr.data.toList.length < 256 := hok.2.1; rw [Array.length_toList] at h; exact h
              have hk3 : x.kd < 256 := hok.2.2.1
              have hk4 : x.bn < 18446744073709551616 := hok.2.2.2.1
              have hk5 : x.rt < 4294967296 := hok.2.2.2.2.1
              have hxl : x.hs.length = 32 := hok.2.2.2.2.2
              have HW := Lib.hid hst
              have hBe : Below w.heap.size w wr := HB5.out.trans ((Hid.out hst).2.1.mono (Nat.le_succ _))
              obtain ⟨b, o, hAe, hb, hr⟩ := (HLV.out.below hBe) i x hx
              have hbs : b < wr.heap.size := Nat.lt_of_lt_of_le hb hBe.size
              have HSN := Lib.hid (flat_snoc cV.wr hx (L0 ++ I.flatMap cI.wr ++ K.flatMap cK.wr))
              have HT0 := Lib.hid (fun w => text_at x.nm w (by omega))
              have zt0 : (bs (txt x.nm)).size ≤ 256 := bs_le' _ _ (by rw [txt_len]; omega)
              obtain ⟨T0, hT0⟩ : ∃ T, txt x.nm = T := ⟨_, rfl⟩
              have HT1 := Lib.hid (fun w => text_at x.fr w (by omega))
              have zt1 : (bs (txt x.fr)).size ≤ 256 := bs_le' _ _ (by rw [txt_len]; omega)
              obtain ⟨T1, hT1⟩ : ∃ T, txt x.fr = T := ⟨_, rfl⟩
              have HT2 := Lib.hid (show ∀ w, Calls Tryz.prog 34 #[.int .u64 (x.kd : Int), .int .i64 1] w fun e w' => e = .returned (.string (bs (be 1 x.kd))) ∧ Below w.heap.size w w' from fun w => number_be x.kd 1 w (by omega) (by omega) (by omega))
              have zt2 : (bs (be 1 x.kd)).size ≤ 256 := bs_le' _ _ (by rw [be_length]; omega)
              obtain ⟨T2, hT2⟩ : ∃ T, be 1 x.kd = T := ⟨_, rfl⟩
              have HT3 := Lib.hid (show ∀ w, Calls Tryz.prog 34 #[.int .u64 (x.bn : Int), .int .i64 8] w fun e w' => e = .returned (.string (bs (be 8 x.bn))) ∧ Below w.heap.size w w' from fun w => number_be x.bn 8 w (by omega) (by omega) (by omega))
              have zt3 : (bs (be 8 x.bn)).size ≤ 256 := bs_le' _ _ (by rw [be_length]; omega)
              obtain ⟨T3, hT3⟩ : ∃ T, be 8 x.bn = T := ⟨_, rfl⟩
              have HT4 := Lib.hid (show ∀ w, Calls Tryz.prog 34 #[.int .u64 (x.rt : Int), .int .i64 4] w fun e w' => e = .returned (.string (bs (be 4 x.rt))) ∧ Below w.heap.size w w' from fun w => number_be x.rt 4 w (by omega) (by omega) (by omega))
              have zt4 : (bs (be 4 x.rt)).size ≤ 256 := bs_le' _ _ (by rw [be_length]; omega)
              obtain ⟨T4, hT4⟩ : ∃ T, be 4 x.rt = T := ⟨_, rfl⟩
              have zt5 : (bs x.hs).size ≤ 256 := bs_le' _ _ (by omega)
              obtain ⟨T5, hT5⟩ : ∃ T, x.hs = T := ⟨_, rfl⟩
              have HLW := Lib.hid (show cV.wr x = (((((T0 ++ T1) ++ T2) ++ T3) ++ T4) ++ T5) by rw [← hT0, ← hT1, ← hT2, ← hT3, ← hT4, ← hT5]; simp only [List.append_assoc]; rfl)
              have HLEN := Lib.hid (show (cV.wr x).length ≤ 600 by rw [wrV_len hok]; unfold szV; omega)
              have HEA := Lib.hid (show bs T0 ++ bs T1 ++ bs T2 ++ bs T3 ++ bs T4 ++ bs T5 = bs (((((T0 ++ T1) ++ T2) ++ T3) ++ T4) ++ T5) by simp only [bs_app])
              rw [show (be 1 x.nm.data.toList.length ++ x.nm.data.toList) = T0 from hT0] at HT0
              rw [hT0] at zt0
              rw [show (be 1 x.fr.data.toList.length ++ x.fr.data.toList) = T1 from hT1] at HT1
              rw [hT1] at zt1
              rw [hT2] at HT2 zt2
              rw [hT3] at HT3 zt3
              rw [hT4] at HT4 zt4
              rw [hT5] at zt5
              have HH := Lib.hid hT5
              have HST := Lib.hid hst
              have HRG := Lib.hid hr
              have HXL := Lib.hid hxl
              clear hr hx hst hBe hok hxl hT0 hT1 hT2 hT3 hT4 hT5
              subst hAe
              go_wp2_with (first
                | (refine wpList_load_at rfl 59 (.tmp 73) rfl b (o + i * 37) rfl (ecV x) _ HRG.out Tryz.underlying59 rfl (infoVs x) ?_)
                | (refine wpList_fresh rfl 59 (.tmp 10) (.tmp 74) rfl (ecV x).toArray _ _ rfl rfl (infoVa x) (ecV_sz x) (all_of_one (ecV_one x)) ?_; intro W hb1 hr1 hz1; have HBW := Lib.hid hb1; have HQL := Lib.hid (show wr.heap.size < W.heap.size by rw [hz1]; exact Nat.lt_succ_self _); have HRW := Lib.hid hr1; have HC0 := Lib.hid (show W.cell? ⟨wr.heap.size, 0, none⟩ = some (.string x.nm) from cell_of_row _ _ 0 _ _ _ hr1); have HC1 := Lib.hid (show W.cell? ⟨wr.heap.size, 2, none⟩ = some (.string x.fr) from cell_of_row _ _ 2 _ _ _ hr1); have HC2 := Lib.hid (show W.cell? ⟨wr.heap.size, 1, none⟩ = some (.int .u8 x.kd) from cell_of_row _ _ 1 _ _ _ hr1); have HC3 := Lib.hid (show W.cell? ⟨wr.heap.size, 3, none⟩ = some (.int .u64 x.bn) from cell_of_row _ _ 3 _ _ _ hr1); have HC4 := Lib.hid (show W.cell? ⟨wr.heap.size, 4, none⟩ = some (.int .u32 x.rt) from cell_of_row _ _ 4 _ _ _ hr1); clear hr1 hz1 hb1 HRG))
              refine wp_region_S (fun w' => Below W.heap.size W w') 25 (by kernel_rfl) (by kernel_rfl) (by kernel_rfl) ((Below.refl _ _).drew) ?_
              simp only [List.take_succ_cons, List.take_zero]
              refine wpG_val (.pointer (some ⟨wr.heap.size, 0, none⟩)) rfl (by rfl) (fun w' hSw => by go_simp) ?_
              simp only [List.setIfInBounds_toArray, List.set_cons_zero, List.set_cons_succ]
              refine wpG_val (.string x.nm) rfl (by rfl) (fun w' hSw => by have c := (hSw.cell (p := ⟨wr.heap.size, 0, none⟩) HQL.out).trans HC0.out; go_simp) ?_
              simp only [List.setIfInBounds_toArray, List.set_cons_zero, List.set_cons_succ]
              refine wpG_call (.string (bs T0)) 35 #[.string x.nm] rfl (by rfl) (fun w' => by go_simp) (fun w' hSw => (HT0.out w').mono fun e w2 h => ⟨h.1, hSw.trans (h.2.mono hSw.size)⟩) ?_
              simp only [List.setIfInBounds_toArray, List.set_cons_zero, List.set_cons_succ]
              refine wpG_val (.pointer (some ⟨wr.heap.size, 2, none⟩)) rfl (by rfl) (fun w' hSw => by go_simp) ?_
              simp only [List.setIfInBounds_toArray, List.set_cons_zero, List.set_cons_succ]
              refine wpG_val (.string x.fr) rfl (by rfl) (fun w' hSw => by have c := (hSw.cell (p := ⟨wr.heap.size, 2, none⟩) HQL.out).trans HC1.out; go_simp) ?_
              simp only [List.setIfInBounds_toArray, List.set_cons_zero, List.set_cons_succ]
              refine wpG_call (.string (bs T1)) 35 #[.string x.fr] rfl (by rfl) (fun w' => by go_simp) (fun w' hSw => (HT1.out w').mono fun e w2 h => ⟨h.1, hSw.trans (h.2.mono hSw.size)⟩) ?_
              simp only [List.setIfInBounds_toArray, List.set_cons_zero, List.set_cons_succ]
              refine wpG_val (.string (bs T0 ++ bs T1)) rfl (by rfl) (fun w' hSw => by go_simp <;> omega) ?_
              simp only [List.setIfInBounds_toArray, List.set_cons_zero, List.set_cons_succ]
              refine wpG_val (.pointer (some ⟨wr.heap.size, 1, none⟩)) rfl (by rfl) (fun w' hSw => by go_simp) ?_
              simp only [List.setIfInBounds_toArray, List.set_cons_zero, List.set_cons_succ]
              refine wpG_val (.int .u8 x.kd) rfl (by rfl) (fun w' hSw => by have c := (hSw.cell (p := ⟨wr.heap.size, 1, none⟩) HQL.out).trans HC2.out; go_simp) ?_
              simp only [List.setIfInBounds_toArray, List.set_cons_zero, List.set_cons_succ]
              refine wpG_val (.int .u64 x.kd) rfl (by rfl) (fun w' hSw => by go_simp; rw [IntKind.wrap_u64]; omega) ?_
              simp only [List.setIfInBounds_toArray, List.set_cons_zero, List.set_cons_succ]
              refine wpG_call (.string (bs T2)) 34 #[.int .u64 x.kd, .int .i64 1] rfl (by rfl) (fun w' => by go_simp) (fun w' hSw => (HT2.out w').mono fun e w2 h => ⟨h.1, hSw.trans (h.2.mono hSw.size)⟩) ?_
              simp only [List.setIfInBounds_toArray, List.set_cons_zero, List.set_cons_succ]
              refine wpG_val (.string (bs T0 ++ bs T1 ++ bs T2)) rfl (by rfl) (fun w' hSw => by go_simp <;> omega) ?_
              simp only [List.setIfInBounds_toArray, List.set_cons_zero, List.set_cons_succ]
              refine wpG_val (.pointer (some ⟨wr.heap.size, 3, none⟩)) rfl (by rfl) (fun w' hSw => by go_simp) ?_
              simp only [List.setIfInBounds_toArray, List.set_cons_zero, List.set_cons_succ]
              refine wpG_val (.int .u64 x.bn) rfl (by rfl) (fun w' hSw => by have c := (hSw.cell (p := ⟨wr.heap.size, 3, none⟩) HQL.out).trans HC3.out; go_simp) ?_
              simp only [List.setIfInBounds_toArray, List.set_cons_zero, List.set_cons_succ]
              refine wpG_call (.string (bs T3)) 34 #[.int .u64 x.bn, .int .i64 8] rfl (by rfl) (fun w' => by go_simp) (fun w' hSw => (HT3.out w').mono fun e w2 h => ⟨h.1, hSw.trans (h.2.mono hSw.size)⟩) ?_
              simp only [List.setIfInBounds_toArray, List.set_cons_zero, List.set_cons_succ]
              refine wpG_val (.string (bs T0 ++ bs T1 ++ bs T2 ++ bs T3)) rfl (by rfl) (fun w' hSw => by go_simp <;> omega) ?_
              simp only [List.setIfInBounds_toArray, List.set_cons_zero, List.set_cons_succ]
              refine wpG_val (.pointer (some ⟨wr.heap.size, 4, none⟩)) rfl (by rfl) (fun w' hSw => by go_simp) ?_
              simp only [List.setIfInBounds_toArray, List.set_cons_zero, List.set_cons_succ]
              refine wpG_val (.int .u32 x.rt) rfl (by rfl) (fun w' hSw => by have c := (hSw.cell (p := ⟨wr.heap.size, 4, none⟩) HQL.out).trans HC4.out; go_simp) ?_
              simp only [List.setIfInBounds_toArray, List.set_cons_zero, List.set_cons_succ]
              refine wpG_val (.int .u64 x.rt) rfl (by rfl) (fun w' hSw => by go_simp; rw [IntKind.wrap_u64]; omega) ?_
              simp only [List.setIfInBounds_toArray, List.set_cons_zero, List.set_cons_succ]
              refine wpG_call (.string (bs T4)) 34 #[.int .u64 x.rt, .int .i64 4] rfl (by rfl) (fun w' => by go_simp) (fun w' hSw => (HT4.out w').mono fun e w2 h => ⟨h.1, hSw.trans (h.2.mono hSw.size)⟩) ?_
              simp only [List.setIfInBounds_toArray, List.set_cons_zero, List.set_cons_succ]
              refine wpG_val (.string (bs T0 ++ bs T1 ++ bs T2 ++ bs T3 ++ bs T4)) rfl (by rfl) (fun w' hSw => by go_simp <;> omega) ?_
              simp only [List.setIfInBounds_toArray, List.set_cons_zero, List.set_cons_succ]
              refine wpG_val (.pointer (some ⟨wr.heap.size, 5, none⟩)) rfl (by rfl) (fun w' hSw => by go_simp) ?_
              simp only [List.setIfInBounds_toArray, List.set_cons_zero, List.set_cons_succ]
              refine wpG_val (.slice (some ⟨wr.heap.size, 5, none⟩) 32 32) rfl (by rfl) (fun w' hSw => by go_simp) ?_
              simp only [List.setIfInBounds_toArray, List.set_cons_zero, List.set_cons_succ]
              refine wpG_val (.string (bs T5)) rfl (by rfl) (fun w' hSw => by have c := conv_hash (q := wr.heap.size) (o := 5) (show T5.length = 32 by rw [← HH.out]; exact HXL.out) (rangeAt_row ((hSw.block _ HQL.out).trans HRW.out) (fun a v hv => by rw [← HH.out] at hv; unfold ecV; rw [fix_of HXL.out, List.getElem?_toArray, Nat.add_comm 5 a]; exact hv)); go_simp) ?_
              simp only [List.setIfInBounds_toArray, List.set_cons_zero, List.set_cons_succ]
              refine wpG_val (.string (bs T0 ++ bs T1 ++ bs T2 ++ bs T3 ++ bs T4 ++ bs T5)) rfl (by rfl) (fun w' hSw => by go_simp <;> omega) ?_
              simp only [List.setIfInBounds_toArray, List.set_cons_zero, List.set_cons_succ]
              refine wpG_nil ?_
              intro wS hSw
              simp only [List.drop_succ_cons, List.drop_zero]
              go_wp2_with fail
              rw [HEA.out, ← HLW.out]
              go_at_call 33
              refine (write_bd ((HST.out.1.below HBW.out).below hSw) (cV.wr x) (by have h1 := HST.out.2.2.2; have h2 := HLEN.out; omega) (Nat.le_trans HST.out.2.2.1 (Nat.le_trans HBW.out.size hSw.size))).mono ?_
              rintro e w6 ⟨rfl, hd6, hb6⟩
              have HN6 := Lib.hid (HST.out.next (HBW.out.trans (hSw.mono HBW.out.size)) hd6 hb6 HLEN.out)
              rw [← HSN.out, show 2 + nI * 600 + nK * 600 + i * 600 + 600 = 2 + nI * 600 + nK * 600 + (i + 1) * 600 by omega] at HN6
              clear hd6 hb6 hSw HST HBW
              go_wp2_with fail
              exact ⟨⟨i + 1, by omega, by go_num, HN6.out⟩, by simp [intOf] <;> omega⟩
            · have HEV := Lib.hid (show Wst w5 (w.heap.size + 1) (L0 ++ I.flatMap cI.wr ++ K.flatMap cK.wr ++ V.flatMap cV.wr) (2 + nI * 600 + nK * 600 + nV * 600) wr by have h := Hid.out hst; rw [List.take_of_length_le (by rw [← HV.out]; omega), show i = nV by omega] at h; exact h)
              clear hst
              have HSB := Lib.hid (string_bd HEV.out.1 HEV.out.2.2.1)
              rw [← HWN.out] at HSB
              go_wp2_with fail
              go_at_call 36
              refine HSB.out.mono ?_
              rintro e w9 ⟨rfl, hb9⟩
              have HB9 := Lib.hid (HB5.out.trans ((HEV.out.2.1.trans hb9).mono (Nat.le_succ _)))
              clear hb9
              go_wp2_with fail
              go_ret
              exact ⟨rfl, HB9.out⟩
end Go.Proofs.YtnfcgifkghegjaaGreatDoor.Nd
/- Contracts of package node's Encode, Decode. -/
namespace Go.Proofs.YtnfcgifkghegjaaGreatDoor.Nd
set_option linter.unusedVariables false
set_option linter.unusedSimpArgs false
open Go.ChangeShapes Go.WideShapes Go.ChangeAt Go.RowKit
open Ar Rg
open BigFrame
open Pk (be num be_length u8s u8s_length)
open It (str_le below_drewN)
/-- Encode's answer -/
def encB (n : Nd) : ByteArray := if ckN n = 0 then bs (encN n) else ByteArray.empty
theorem seal_yes (l : List UInt8) (h : l.length ≤ 508) (w : World) : Calls Tryz.prog 16 #[.string (bs l)] w fun e w' => e = .returned (.tuple #[.string (bs (sealL l)), .int .i64 0]) ∧ Below w.heap.size w w' := by
  have := seal_any (bs l) w
  unfold slB slE at this
  rwa [if_neg (by rw [bs_size]; omega), if_neg (by rw [bs_size]; omega), bs_data] at this
set_option maxRecDepth 100000 in
set_option maxHeartbeats 4000000 in
theorem encode_any (n : Nd) (hw : Wd n) (cs : Array Value) (w : World) (hn : NdAt w cs n) :
    Calls Tryz.prog 4 #[.agg cs] w fun e w' => e = .returned (.tuple #[.string (encB n), .int .i64 (ckN n)]) ∧ Below w.heap.size w w' := by
  have hcz := hn.size
  have HI := Lib.hid (show (Tryz.prog.info? 27).map (·.size) = some cs.size by rw [hcz]; kernel_rfl)
  have HB0 := Lib.hid (show Below w.heap.size w (w.alloc (.cells cs 27)) from (Below.refl _ _).alloc (Nat.le_refl _) _)
  have HR0 := Lib.hid (heap_alloc_new w (.cells cs 27))
  have HC1 := Lib.hid (fun w' (hb : Below w.heap.size w w') => check_any n hw cs w' (hn.below hb))
  by_cases hc : ckN n = 0
  · have HC2 := Lib.hid (fun w' (hb : Below w.heap.size w w') => written_any n (rt_fm hw (ck_zero.1 hc).1) cs w' (hn.below hb))
    have HC3 := Lib.hid (fun w' => seal_yes (wN n) (by rw [wN_len (rt_fm hw (ck_zero.1 hc).1)]; exact (ck_zero.1 hc).2) w')
    have HX := Lib.hid (show encB n = bs (sealL (wN n)) by unfold encB; rw [if_pos hc]; rfl)
    rw [HX.out, hc]
    rw [hc] at HC1
    clear hc hcz hn hw
    generalize bs (sealL (wN n)) = R at *
    generalize bs (wN n) = V at *
    go_enter Tryz.func4, Tryz.ntmps4
    go_wp2_with (first
      | (refine wpList_load_row rfl 27 (.tmp 1) rfl w.heap.size rfl 27 cs (0, 0) _ HR0.out Tryz.underlying27 rfl HI.out ?_)
      | (go_at_call 12; refine (HC1.out _ HB0.out).mono ?_; rintro e w3 ⟨rfl, hb3⟩; have HB3 := Lib.hid (HB0.out.trans (hb3.mono HB0.out.size)); have HR3 := Lib.hid ((hb3.block _ (row_lt HR0.out)).trans HR0.out); clear hb3)
      | (refine wpList_load_row rfl 27 (.tmp 1) rfl w.heap.size rfl 27 cs (0, 0) _ HR3.out Tryz.underlying27 rfl HI.out ?_)
      | (go_at_call 17; refine (HC2.out _ HB3.out).mono ?_; rintro e w4 ⟨rfl, hb4⟩; have HB4 := Lib.hid (HB3.out.trans (hb4.mono HB3.out.size)); clear hb4)
      | (go_at_call 16; refine (HC3.out _).mono ?_; rintro e w5 ⟨rfl, hb5⟩; have HB5 := Lib.hid (HB4.out.trans (hb5.mono HB4.out.size)); clear hb5))
    go_ret2
    exact ⟨rfl, HB5.out⟩
  · have HX := Lib.hid (show encB n = ByteArray.empty by unfold encB; rw [if_neg hc])
    rw [HX.out]
    have q : ((ckN n : Int) != 0) = true := by rw [bne_iff_ne]; exact hc
    generalize ckN n = C at *
    clear hc hcz hn hw
    go_enter Tryz.func4, Tryz.ntmps4
    go_wp2_with (first
      | (refine wpList_load_row rfl 27 (.tmp 1) rfl w.heap.size rfl 27 cs (0, 0) _ HR0.out Tryz.underlying27 rfl HI.out ?_)
      | (go_at_call 12; refine (HC1.out _ HB0.out).mono ?_; rintro e w3 ⟨rfl, hb3⟩; have HB3 := Lib.hid (HB0.out.trans (hb3.mono HB0.out.size)); clear hb3))
    go_ret2
    exact ⟨rfl, HB3.out⟩
/-! ## what is taken -/
section
variable {α : Type}
theorem many_len (C : Cod α) : ∀ (c : Nat) (s : S), (tkMany C c s).1.length ≤ c
  | 0, s => Nat.le_refl _
  | c + 1, s => by
    rw [tkMany]
    split
    · simp
    · have := many_len C c (C.tk s).2
      simp only [List.length_cons]
      omega
theorem many_all {C : Cod α} {p : α → Prop} (h : ∀ s, p (C.tk s).1) : ∀ (c : Nat) (s : S), ∀ x ∈ (tkMany C c s).1, p x
  | 0, s, x, hx => by cases hx
  | c + 1, s, x, hx => by
    rw [tkMany] at hx
    split at hx
    · have : x = (C.tk s).1 := by simpa using hx
      rw [this]; exact h s
    · rcases List.mem_cons.1 hx with rfl | hx
      · exact h s
      · exact many_all h c _ x hx
end
theorem K_wd (s : S) : (cK.tk s).1.n < 256 ^ 4 ∧ (cK.tk s).1.hs.length = 32 := by
  obtain ⟨V1, s1, e1⟩ : ∃ V s', tkTxt s = (V, s') := ⟨_, _, rfl⟩
  obtain ⟨V2, s2, e2⟩ : ∃ V s', tkNum 4 s1 = (V, s') := ⟨_, _, rfl⟩
  obtain ⟨V3, s3, e3⟩ : ∃ V s', tkHash s2 = (V, s') := ⟨_, _, rfl⟩
  have hX : (cK.tk s).1 = ⟨bs V1, V2, V3⟩ := by
    have := as_tk (A := cTxt.pair ((cNum 4).pair cHash)) (f := fun p => (⟨bs p.1, p.2.1, p.2.2⟩ : Kd)) (g := fun x => (x.k.data.toList, x.n, x.hs)) (pair_tk (A := cTxt) e1 (pair_tk (A := cNum 4) (B := cHash) e2 e3))
    exact congrArg Prod.fst this
  rw [hX]
  have h2 := num_width 4 s1
  have h3 := tkHash_len s2
  rw [e2] at h2
  rw [e3] at h3
  exact ⟨h2, h3⟩
theorem V_wd (s : S) : (cV.tk s).1.kd < 256 ^ 1 ∧ (cV.tk s).1.bn < 256 ^ 8 ∧ (cV.tk s).1.rt < 256 ^ 4 ∧ (cV.tk s).1.hs.length = 32 := by
  obtain ⟨V1, s1, e1⟩ : ∃ V s', tkTxt s = (V, s') := ⟨_, _, rfl⟩
  obtain ⟨V2, s2, e2⟩ : ∃ V s', tkTxt s1 = (V, s') := ⟨_, _, rfl⟩
  obtain ⟨V3, s3, e3⟩ : ∃ V s', tkNum 1 s2 = (V, s') := ⟨_, _, rfl⟩
  obtain ⟨V4, s4, e4⟩ : ∃ V s', tkNum 8 s3 = (V, s') := ⟨_, _, rfl⟩
  obtain ⟨V5, s5, e5⟩ : ∃ V s', tkNum 4 s4 = (V, s') := ⟨_, _, rfl⟩
  obtain ⟨V6, s6, e6⟩ : ∃ V s', tkHash s5 = (V, s') := ⟨_, _, rfl⟩
  have hX : (cV.tk s).1 = ⟨bs V1, V3, bs V2, V4, V5, V6⟩ := by
    have := as_tk (A := cTxt.pair (cTxt.pair ((cNum 1).pair ((cNum 8).pair ((cNum 4).pair cHash))))) (f := fun p => (⟨bs p.1, p.2.2.1, bs p.2.1, p.2.2.2.1, p.2.2.2.2.1, p.2.2.2.2.2⟩ : Vo)) (g := fun x => (x.nm.data.toList, x.fr.data.toList, x.kd, x.bn, x.rt, x.hs)) (pair_tk (A := cTxt) e1 (pair_tk (A := cTxt) e2 (pair_tk (A := cNum 1) e3 (pair_tk (A := cNum 8) e4 (pair_tk (A := cNum 4) (B := cHash) e5 e6)))))
    exact congrArg Prod.fst this
  rw [hX]
  have h3 := num_width 1 s2
  have h4 := num_width 8 s3
  have h5 := num_width 4 s4
  have h6 := tkHash_len s5
  rw [e3] at h3
  rw [e4] at h4
  rw [e5] at h5
  rw [e6] at h6
  exact ⟨h3, h4, h5, h6⟩
theorem tkN_fine (l : List UInt8) : Wd (tkN l).1 ∧ (tkN l).1.I.length ≤ 255 ∧ (tkN l).1.K.length ≤ 255 ∧ (tkN l).1.V.length ≤ 255 ∧ (tkN l).1.kd < 256 := by
  have hc := num_byte (tkNum 1 (l, false)).2
  have hk := num_byte (l, false)
  unfold tkN
  dsimp only
  split
  · exact ⟨⟨fun x hx => (by cases hx), fun x hx => (by cases hx)⟩, Nat.le_trans (many_len _ _ _) (by omega), Nat.zero_le _, Nat.zero_le _, hk⟩
  · split
    · exact ⟨⟨many_all K_wd _ _, fun x hx => (by cases hx)⟩, Nat.zero_le _, Nat.le_trans (many_len _ _ _) (by omega), Nat.zero_le _, hk⟩
    · split
      · exact ⟨⟨fun x hx => (by cases hx), many_all V_wd _ _⟩, Nat.zero_le _, Nat.zero_le _, Nat.le_trans (many_len _ _ _) (by omega), hk⟩
      · exact ⟨⟨fun x hx => (by cases hx), fun x hx => (by cases hx)⟩, Nat.zero_le _, Nat.zero_le _, Nat.zero_le _, hk⟩
theorem NdOwn.go {w w1 w2 : World} {cs : Array Value} {n : Nd} (h : NdOwn w w1 cs n) (hb : Below w1.heap.size w1 w2) : NdOwn w w2 cs n := by
  obtain ⟨vI, vK, vV, rfl, mI, mK, mV⟩ := h; exact ⟨_, _, _, rfl, mI.go hb, mK.go hb, mV.go hb⟩
theorem NdOwn.since {w0 w w1 : World} {cs : Array Value} {n : Nd} (h : NdOwn w w1 cs n) (hb : Below w0.heap.size w0 w) : NdOwn w0 w1 cs n := by
  obtain ⟨vI, vK, vV, rfl, mI, mK, mV⟩ := h; exact ⟨_, _, _, rfl, mI.since hb, mK.since hb, mV.since hb⟩
/-- beside a block of another type -/
theorem NdOwn.beside {w w1 w2 : World} {cs : Array Value} {n : Nd} {q : Nat} {old : Array Value} {t : TypeId} {f : Nat × Nat} (h : NdOwn w w1 cs n) (hq : w1.heap[q]? = some (.cells old t f)) (ht : t ≠ 61 ∧ t ≠ 55 ∧ t ≠ 59) (hg : w1.grownBy w2 (some q)) (hw : w.heap.size ≤ q) : NdOwn w w2 cs n := by
  obtain ⟨vI, vK, vV, rfl, mI, mK, mV⟩ := h
  exact ⟨_, _, _, rfl, mI.grownQ hg hw (mI.off hq ht.1), mK.grownQ hg hw (mK.off hq ht.2.1), mV.grownQ hg hw (mV.off hq ht.2.2)⟩
theorem NdOwn.one {w w1 : World} {cs : Array Value} {n : Nd} (h : NdOwn w w1 cs n) : cs.size = 4 ∧ cs.all (·.oneCell') = true := by
  obtain ⟨vI, vK, vV, rfl, mI, mK, mV⟩ := h
  obtain ⟨A1, c1, rfl, _, _, _⟩ := mI.ls It.enc_len
  obtain ⟨A2, c2, rfl, _, _, _⟩ := mK.ls ecK_len
  obtain ⟨A3, c3, rfl, _, _, _⟩ := mV.ls ecV_len
  exact ⟨rfl, four_cells _ _ _ _ rfl rfl rfl rfl⟩
abbrev zN : Array Value := #[.int .u8 0, zS, zS, zS]
theorem info4 {cs : Array Value} (h : cs.size = 4) : (Tryz.prog.info? 27).map (·.size) = some cs.size := by rw [h]; kernel_rfl
theorem dec_cases (d : List UInt8) : (openL d = none ∧ decN d = none) ∨ ∃ l, openL d = some l ∧ (((tkN l).2 = false ∧ decN d = none) ∨ ((tkN l).2 = true ∧ ckN (tkN l).1 ≠ 0 ∧ decN d = none) ∨ ((tkN l).2 = true ∧ ckN (tkN l).1 = 0 ∧ decN d = some (tkN l).1)) := by
  unfold decN
  cases h : openL d with
  | none => exact .inl ⟨rfl, rfl⟩
  | some l =>
    right
    refine ⟨l, rfl, ?_⟩
    dsimp only
    cases h2 : (tkN l).2
    · exact .inl ⟨rfl, if_neg (by simp)⟩
    · by_cases h3 : ckN (tkN l).1 = 0
      · exact .inr (.inr ⟨rfl, h3, if_pos ⟨rfl, h3⟩⟩)
      · exact .inr (.inl ⟨rfl, h3, if_neg (by simp [h3])⟩)
/-- Decode's answer -/
def DePost (d : ByteArray) (w : World) (e : Ending) (w' : World) : Prop := ∃ n cs, e = .returned (.tuple #[.agg cs, .int .i64 (if (decN d.data.toList).isSome then 0 else 9)]) ∧ NdOwn w w' cs n ∧ n = (decN d.data.toList).getD ⟨0, [], [], []⟩
theorem de_none {d : ByteArray} {w w' : World} {e : Ending} (h : decN d.data.toList = none) (he : e = .returned (.tuple #[.agg zN, .int .i64 9])) (hb : Below w.heap.size w w') : DePost d w e w' := by
  subst he
  unfold DePost
  rw [h]
  exact ⟨⟨0, [], [], []⟩, zN, rfl, ⟨_, _, _, rfl, Mk.nil hb, Mk.nil hb, Mk.nil hb⟩, rfl⟩
theorem de_some {d : ByteArray} {w w' : World} {e : Ending} {n : Nd} {cs : Array Value} (h : decN d.data.toList = some n) (he : e = .returned (.tuple #[.agg cs, .int .i64 0])) (hb : NdOwn w w' cs n) : DePost d w e w' := by
  subst he
  unfold DePost
  rw [h]
  exact ⟨n, cs, rfl, hb, rfl⟩
set_option maxRecDepth 100000 in
set_option maxHeartbeats 4000000 in
theorem decode_any (d : ByteArray) (hd : d.size ≤ 9223372036854775807) (w : World) : Calls Tryz.prog 6 #[.string d] w (DePost d w) := by
  have HOP := Lib.hid (fun w => opened_any d hd w)
  have HR0 := Lib.hid (heap_alloc_new w (.cells zN 27))
  have HB0 := Lib.hid (show Below w.heap.size w (w.alloc (.cells zN 27)) from (Below.refl _ _).alloc (Nat.le_refl _) _)
  rcases dec_cases d.data.toList with ⟨ho, hdn⟩ | ⟨l, ho, hrest⟩
  · have HD := Lib.hid hdn
    have HO := Lib.hid ho
    clear ho hdn
    go_enter Tryz.func6, Tryz.ntmps6
    go_wp2_with fail
    generalize w.alloc _ = w0 at *
    go_at_call 20
    refine (HOP.out _).mono ?_
    rintro e w3 ⟨r, rfl, hr, hb3⟩
    have HB3 := Lib.hid (HB0.out.trans (hb3.mono HB0.out.size))
    have HR3 := Lib.hid ((hb3.block _ (row_lt HR0.out)).trans HR0.out)
    have q : (openL d.data.toList).isSome = false := by rw [HO.out]; rfl
    clear hr hb3
    rw [q]
    clear q
    go_wp2_with (first
      | (refine wpList_store_row rfl 27 (.tmp 2) (.tmp 14) rfl w.heap.size zN rfl rfl 27 zN HR3.out (info4 rfl) rfl (four_cells _ _ _ _ rfl rfl rfl rfl) ?_))
    have hg2 := setRow_heap' (cs := zN) HR3.out
    refine bodyPost_ret (v := .tuple #[.agg zN, .int .i64 9]) (results_row2 rfl _ _ w.heap.size 27 zN (0, 0) _ rfl hg2 Tryz.underlying27 rfl (info4 rfl) _ rfl) rfl ?_
    exact de_none HD.out rfl (HB3.out.grown (grown_setRow _ w.heap.size zN) HB3.out.size (fun k hk => by cases hk; exact Nat.le_refl _))
  · have HO := Lib.hid ho
    have hll : l.length ≤ 512 := by
      have := seal_open ho
      omega
    have HTK := Lib.hid (fun w => taken_any (bs l) (by rw [bs_size]; unfold maxLen; omega) w)
    rw [bs_data] at HTK
    have hfine := tkN_fine l
    have HCK := Lib.hid (fun (w' : World) (cs : Array Value) (h : NdOwn w w' cs (tkN l).1) => check_any (tkN l).1 hfine.1 cs w' (h.at_ (by omega) (by omega) (by omega)))
    clear hfine hll ho
    rcases hrest with ⟨h2, hdn⟩ | ⟨h2, h3, hdn⟩ | ⟨h2, h3, hdn⟩
    · have HT2 := Lib.hid h2
      have HD := Lib.hid hdn
      clear h2 hdn
      go_enter Tryz.func6, Tryz.ntmps6
      go_wp2_with fail
      generalize w.alloc _ = w0 at *
      go_at_call 20
      refine (HOP.out _).mono ?_
      rintro e w3 ⟨r, rfl, hr, hb3⟩
      have HB3 := Lib.hid (HB0.out.trans (hb3.mono HB0.out.size))
      have HR3 := Lib.hid ((hb3.block _ (row_lt HR0.out)).trans HR0.out)
      have q : (openL d.data.toList).isSome = true := by rw [HO.out]; rfl
      have hrl := hr l HO.out
      subst hrl
      clear hr hb3
      rw [q]
      clear q
      go_wp2_with (first
        | (go_at_call 21; refine (HTK.out _).mono ?_; rintro e w4 ⟨cs, rfl, hown4⟩; have HO4 := Lib.hid hown4; have HR4 := Lib.hid ((hown4.bel.block _ (row_lt HR3.out)).trans HR3.out); have HB4 := Lib.hid (HB3.out.trans (hown4.bel.mono HB3.out.size)); clear hown4; rw [HT2.out])
        | (refine wpList_fresh rfl 27 (.tmp 6) (.tmp 18) rfl cs _ _ rfl rfl (info4 HO4.out.one.1) HO4.out.one.1.symm HO4.out.one.2 ?_; intro w5 hb5 hr5 hz5; have HO5 := Lib.hid ((HO4.out.go hb5).since HB3.out); have HR5 := Lib.hid ((hb5.block _ (row_lt HR4.out)).trans HR4.out); have HB5 := Lib.hid (HB4.out.trans (hb5.mono HB4.out.size)); have HN5 := Lib.hid hr5; have HL5 := Lib.hid (show w.heap.size < w4.heap.size from row_lt HR4.out); clear hb5 hr5 hz5)
        | (refine wpList_store_row rfl 27 (.tmp 2) (.tmp 27) rfl w.heap.size zN rfl rfl 27 zN HR5.out (info4 rfl) rfl (four_cells _ _ _ _ rfl rfl rfl rfl) ?_))
      have hg2 := setRow_heap' (cs := zN) HR5.out
      refine bodyPost_ret (v := .tuple #[.agg zN, .int .i64 9]) (results_row2 rfl _ _ w.heap.size 27 zN (0, 0) _ rfl hg2 Tryz.underlying27 rfl (info4 rfl) _ rfl) rfl ?_
      exact de_none HD.out rfl (HB5.out.grown (grown_setRow _ w.heap.size zN) HB5.out.size (fun k hk => by cases hk; exact Nat.le_refl _))
    · have HT2 := Lib.hid h2
      have HD := Lib.hid hdn
      have q3 : ((ckN (tkN l).1 : Int) != 0) = true := by rw [bne_iff_ne]; exact h3
      clear h2 hdn h3
      generalize ckN (tkN l).1 = C at *
      go_enter Tryz.func6, Tryz.ntmps6
      go_wp2_with fail
      generalize w.alloc _ = w0 at *
      go_at_call 20
      refine (HOP.out _).mono ?_
      rintro e w3 ⟨r, rfl, hr, hb3⟩
      have HB3 := Lib.hid (HB0.out.trans (hb3.mono HB0.out.size))
      have HR3 := Lib.hid ((hb3.block _ (row_lt HR0.out)).trans HR0.out)
      have q : (openL d.data.toList).isSome = true := by rw [HO.out]; rfl
      have hrl := hr l HO.out
      subst hrl
      clear hr hb3
      rw [q]
      clear q
      go_wp2_with (first
        | (go_at_call 21; refine (HTK.out _).mono ?_; rintro e w4 ⟨cs, rfl, hown4⟩; have HO4 := Lib.hid hown4; have HR4 := Lib.hid ((hown4.bel.block _ (row_lt HR3.out)).trans HR3.out); have HB4 := Lib.hid (HB3.out.trans (hown4.bel.mono HB3.out.size)); clear hown4; rw [HT2.out])
        | (refine wpList_fresh rfl 27 (.tmp 6) (.tmp 18) rfl cs _ _ rfl rfl (info4 HO4.out.one.1) HO4.out.one.1.symm HO4.out.one.2 ?_; intro w5 hb5 hr5 hz5; have HO5 := Lib.hid ((HO4.out.go hb5).since HB3.out); have HR5 := Lib.hid ((hb5.block _ (row_lt HR4.out)).trans HR4.out); have HB5 := Lib.hid (HB4.out.trans (hb5.mono HB4.out.size)); have HN5 := Lib.hid hr5; have HL5 := Lib.hid (show w.heap.size < w4.heap.size from row_lt HR4.out); clear hb5 hr5 hz5)
        | (refine wpList_load_row_g 27 (.tmp 6) rfl (by kernel_rfl) w4.heap.size rfl 27 cs (0, 0) _ HN5.out Tryz.underlying27 rfl (info4 HO4.out.one.1) ?_)
        | (go_at_call 12; refine (HCK.out _ _ HO5.out).mono ?_; rintro e w6 ⟨rfl, hb6⟩; have HO6 := Lib.hid (HO5.out.go hb6); have HR6 := Lib.hid ((hb6.block _ (row_lt HR5.out)).trans HR5.out); have HN6 := Lib.hid ((hb6.block _ (row_lt HN5.out)).trans HN5.out); have HB6 := Lib.hid (HB5.out.trans (hb6.mono HB5.out.size)); clear hb6)
        | (refine wpList_store_row rfl 27 (.tmp 2) (.tmp 27) rfl w.heap.size zN rfl rfl 27 zN HR6.out (info4 rfl) rfl (four_cells _ _ _ _ rfl rfl rfl rfl) ?_))
      have hg2 := setRow_heap' (cs := zN) HR6.out
      refine bodyPost_ret (v := .tuple #[.agg zN, .int .i64 9]) (results_row2 rfl _ _ w.heap.size 27 zN (0, 0) _ rfl hg2 Tryz.underlying27 rfl (info4 rfl) _ rfl) rfl ?_
      exact de_none HD.out rfl (HB6.out.grown (grown_setRow _ w.heap.size zN) HB6.out.size (fun k hk => by cases hk; exact Nat.le_refl _))
    · have HT2 := Lib.hid h2
      have HD := Lib.hid hdn
      rw [h3] at HCK
      clear h2 hdn h3
      go_enter Tryz.func6, Tryz.ntmps6
      go_wp2_with fail
      generalize w.alloc _ = w0 at *
      go_at_call 20
      refine (HOP.out _).mono ?_
      rintro e w3 ⟨r, rfl, hr, hb3⟩
      have HB3 := Lib.hid (HB0.out.trans (hb3.mono HB0.out.size))
      have HR3 := Lib.hid ((hb3.block _ (row_lt HR0.out)).trans HR0.out)
      have q : (openL d.data.toList).isSome = true := by rw [HO.out]; rfl
      have hrl := hr l HO.out
      subst hrl
      clear hr hb3
      rw [q]
      clear q
      go_wp2_with (first
        | (go_at_call 21; refine (HTK.out _).mono ?_; rintro e w4 ⟨cs, rfl, hown4⟩; have HO4 := Lib.hid hown4; have HR4 := Lib.hid ((hown4.bel.block _ (row_lt HR3.out)).trans HR3.out); have HB4 := Lib.hid (HB3.out.trans (hown4.bel.mono HB3.out.size)); clear hown4; rw [HT2.out])
        | (refine wpList_fresh rfl 27 (.tmp 6) (.tmp 18) rfl cs _ _ rfl rfl (info4 HO4.out.one.1) HO4.out.one.1.symm HO4.out.one.2 ?_; intro w5 hb5 hr5 hz5; have HO5 := Lib.hid ((HO4.out.go hb5).since HB3.out); have HR5 := Lib.hid ((hb5.block _ (row_lt HR4.out)).trans HR4.out); have HB5 := Lib.hid (HB4.out.trans (hb5.mono HB4.out.size)); have HN5 := Lib.hid hr5; have HL5 := Lib.hid (show w.heap.size < w4.heap.size from row_lt HR4.out); clear hb5 hr5 hz5)
        | (refine wpList_load_row_g 27 (.tmp 6) rfl (by kernel_rfl) w4.heap.size rfl 27 cs (0, 0) _ HN5.out Tryz.underlying27 rfl (info4 HO4.out.one.1) ?_)
        | (go_at_call 12; refine (HCK.out _ _ HO5.out).mono ?_; rintro e w6 ⟨rfl, hb6⟩; have HO6 := Lib.hid (HO5.out.go hb6); have HR6 := Lib.hid ((hb6.block _ (row_lt HR5.out)).trans HR5.out); have HN6 := Lib.hid ((hb6.block _ (row_lt HN5.out)).trans HN5.out); have HB6 := Lib.hid (HB5.out.trans (hb6.mono HB5.out.size)); clear hb6)
        | (refine wpList_load_row rfl 27 (.tmp 6) rfl w4.heap.size rfl 27 cs (0, 0) _ HN6.out Tryz.underlying27 rfl (info4 HO4.out.one.1) ?_)
        | (refine wpList_store_row rfl 27 (.tmp 2) (.tmp 28) rfl w.heap.size cs rfl rfl 27 zN HR6.out (info4 HO4.out.one.1) HO4.out.one.1.symm HO4.out.one.2 ?_))
      have hg2 := setRow_heap' (cs := cs) HR6.out
      refine bodyPost_ret (v := .tuple #[.agg cs, .int .i64 0]) (results_row2 rfl _ _ w.heap.size 27 cs (0, 0) _ rfl hg2 Tryz.underlying27 rfl (info4 HO4.out.one.1) _ rfl) rfl ?_
      exact de_some HD.out rfl (HO6.out.beside HR6.out (by decide) (grown_setRow _ w.heap.size cs) (Nat.le_refl _))
end Go.Proofs.YtnfcgifkghegjaaGreatDoor.Nd
/- The document's own Encode of nodes. -/
namespace Go.Proofs.YtnfcgifkghegjaaGreatDoor.Nr
set_option linter.unusedVariables false
set_option linter.unusedSimpArgs false
open Go.ChangeShapes Go.WideShapes Go.ChangeAt Go.RowKit
open Nd Ar Rg
open BigFrame
theorem ck_zero {n : Nd} (h : ckN n = 0) : rtN n = true ∧ szN n ≤ 508 := by
  unfold ckN at h
  split at h
  · rename_i hr
    split at h
    · cases h
    · exact ⟨hr, by omega⟩
  · cases h
theorem rt_all {n : Nd} (h : rtN n = true) : n.kd < 256 ∧ (∀ x ∈ n.I, x.k.size ≤ 1000 ∧ x.v.size ≤ 1000) ∧ (∀ x ∈ n.K, x.k.size ≤ 1000) ∧ ∀ x ∈ n.V, x.nm.size ≤ 1000 ∧ x.fr.size ≤ 1000 := by
  have hf := rt_few h
  obtain ⟨kd, I, K, V⟩ := n
  unfold rtN at h
  dsimp only at h ⊢
  have none : ∀ {α : Type} {l : List α}, l.length = 0 → ∀ x ∈ l, False := fun hl x hx => by rw [List.eq_nil_of_length_eq_zero hl] at hx; cases hx
  split at h
  · rename_i e
    simp only [Bool.and_eq_true, decide_eq_true_eq] at h
    obtain ⟨h1, h2⟩ := hf.I e
    exact ⟨by omega, fun x hx => (by have := h2 x hx; omega), fun x hx => (none h.1 x hx).elim, fun x hx => (none h.2.1 x hx).elim⟩
  · split at h
    · rename_i e
      simp only [Bool.and_eq_true, decide_eq_true_eq] at h
      obtain ⟨h1, h2⟩ := hf.K e
      exact ⟨by omega, fun x hx => (none h.1 x hx).elim, fun x hx => (by have := h2 x hx; omega), fun x hx => (none h.2.1 x hx).elim⟩
    · split at h
      · rename_i e
        simp only [Bool.and_eq_true, decide_eq_true_eq] at h
        obtain ⟨h1, h2⟩ := hf.V e
        exact ⟨by omega, fun x hx => (none h.1 x hx).elim, fun x hx => (none h.2.1 x hx).elim, fun x hx => (by have := h2 x hx; omega)⟩
      · cases h
set_option maxRecDepth 100000 in
set_option maxHeartbeats 4000000 in
theorem rencodeN_any (n : Nd) (hw : Wd n) (cs : Array Value) (w : World) (hn : NdAt w cs n) :
    Calls Tryz.prog 5 #[.agg cs] w fun e w' => e = .returned (.tuple #[.string (encB n), .int .i64 (ckN n)]) ∧ Below w.heap.size w w' := by
  have hcz := hn.size
  have HI := Lib.hid (show (Tryz.prog.info? 27).map (·.size) = some cs.size by rw [hcz]; kernel_rfl)
  have HNA := Lib.hid hn
  have HC := Lib.hid (fun (w' : World) (hb : Below w.heap.size w w') => rcheckN_any n hw cs w' (HNA.out.below hb))
  have HBY := Lib.hid (fun (h0 : ckN n = 0) (w' : World) (hb : Below w.heap.size w w') => (by
    obtain ⟨hr, hs⟩ := ck_zero h0
    obtain ⟨r1, r2, r3, r4⟩ := rt_all hr
    exact rbytes_any n hw r1 (by rw [wN_len (rt_fm hw hr)]; omega) r2 r3 r4 cs w' (HNA.out.below hb) : Calls Tryz.prog 19 #[.agg cs] w' fun e w'' => e = .returned (.string (bs (wN n))) ∧ Below w'.heap.size w' w''))
  have HWH := Lib.hid (fun (h0 : ckN n = 0) (w' : World) => (by
    obtain ⟨hr, hs⟩ := ck_zero h0
    have := whole_any (bs (wN n)) (by rw [bs_size, wN_len (rt_fm hw hr)]; omega) w'
    rw [bs_data] at this
    exact this : Calls Tryz.prog 18 #[.string (bs (wN n))] w' fun e w'' => e = .returned (.string (bs (sealL (wN n)))) ∧ Below w'.heap.size w' w''))
  have HEY := Lib.hid (fun h : ckN n = 0 => (show encB n = bs (sealL (wN n)) by unfold encB; rw [if_pos h]; rfl))
  have HEN := Lib.hid (fun h : ckN n ≠ 0 => (show encB n = ByteArray.empty by unfold encB; rw [if_neg h]))
  generalize bs (sealL (wN n)) = R at *
  generalize bs (wN n) = S at *
  generalize encB n = EB at *
  generalize ckN n = C at *
  have R0 := Lib.hid (heap_alloc_new w (.cells cs 27))
  have B0 := Lib.hid ((Below.refl w.heap.size w).alloc (Nat.le_refl _) (.cells cs 27))
  clear hn hcz
  go_enter Tryz.func5, Tryz.ntmps5
  go_wp2_with (refine wpList_load_row rfl 27 (.tmp 1) rfl w.heap.size rfl 27 cs (0, 0) _ R0.out Tryz.underlying27 rfl HI.out ?_)
  generalize w.alloc _ = w0 at *
  refine (HC.out _ B0.out).mono ?_
  rintro e w1 ⟨rfl, hb⟩
  have R1 := Lib.hid ((hb.block _ (row_lt R0.out)).trans R0.out)
  have B1 := Lib.hid (B0.out.trans (hb.mono B0.out.size))
  clear hb R0 B0 HC
  by_cases h0 : C = 0
  · have E := HEY.out h0
    have HB := Lib.hid (HBY.out h0 w1 B1.out)
    have HH := Lib.hid (HWH.out h0)
    subst h0 E
    clear HEY HEN HBY HWH
    go_wp2_with (refine wpList_load_row rfl 27 (.tmp 1) rfl w.heap.size rfl 27 cs (0, 0) _ R1.out Tryz.underlying27 rfl HI.out ?_)
    refine HB.out.mono ?_
    rintro e w2 ⟨rfl, hb⟩
    have B2 := Lib.hid (B1.out.trans (hb.mono B1.out.size))
    clear hb B1 R1 HB
    go_wp2_with fail
    refine (HH.out _).mono ?_
    rintro e w3 ⟨rfl, hb⟩
    have B3 := Lib.hid (B2.out.trans (hb.mono B2.out.size))
    clear hb B2 HH
    go_wp2
    go_ret2
    exact ⟨rfl, B3.out⟩
  · have E := HEN.out h0
    subst E
    have q : (C != 0) = true := by rw [bne_iff_ne]; exact h0
    clear HEY HEN HBY HWH h0
    go_wp2
    go_ret2
    exact ⟨rfl, B1.out⟩
end Go.Proofs.YtnfcgifkghegjaaGreatDoor.Nr
