/- Contracts of package node's right, Check. -/
import Derived.Test.YtlchjohaacbkpaaGreatDoorNdC
namespace Go.Proofs.YtlchjohaacbkpaaGreatDoor.Nd
set_option linter.unusedVariables false
set_option linter.unusedSimpArgs false
open Go.ChangeShapes Go.WideShapes Go.ChangeAt Go.RowKit
open Ar Rg
open BigFrame
open Pk (u8s u8s_length)
open It (str_le below_drewN)
theorem rightCount_at (n : Nat) (w : World) : Calls Tryz.prog 89 #[.int .i64 n] w fun e w' => e = .returned (.bool (okCount n)) ∧ w = w' := rightCount_any n w
set_option maxRecDepth 100000 in
set_option maxHeartbeats 4000000 in
theorem right_any (n : Nd) (hw : Wd n) (cs : Array Value) (w : World) (hn : NdAt w cs n) :
    Calls Tryz.prog 53 #[.agg cs] w fun e w' => e = .returned (.bool (rtN n)) ∧ Below w.heap.size w w' := by
  obtain ⟨AI, nI, cI, AK, nK, cK, AV, nV, cV, rfl, hI, hK, hV, bI, bK, bV, lI, lK, lV⟩ := hn
  obtain ⟨kd, I, K, V⟩ := n
  obtain ⟨wK, wV⟩ := hw
  dsimp only at hI hK hV lI lK lV wK wV ⊢
  have HB0 := Lib.hid (show Below w.heap.size w (w.alloc (.cells #[.int .u8 (kd : Int), .slice AI nI cI, .slice AK nK cK, .slice AV nV cV] 27)) from (Below.refl _ _).alloc (Nat.le_refl _) _)
  have HR0 := Lib.hid (heap_alloc_new w (.cells #[.int .u8 (kd : Int), .slice AI nI cI, .slice AK nK cK, .slice AV nV cV] 27))
  have HLI := Lib.hid lI
  have HLK := Lib.hid lK
  have HLV := Lib.hid lV
  have HWK := Lib.hid (show ∀ x ∈ K, x.hs.length = 32 from fun x hx => (wK x hx).2)
  have HWV := Lib.hid (show ∀ x ∈ V, x.hs.length = 32 from fun x hx => (wV x hx).2.2.2)
  have HCI := Lib.hid (fun w' (hb : Below w.heap.size w w') => It.check_any I AI nI cI w.heap.size hI bI w' hb.size (lI.below hb))
  have HCK := Lib.hid (fun w' (hb : Below w.heap.size w w') => rightKids_any K (fun x hx => (wK x hx).2) AK nK cK w.heap.size hK bK w' hb.size (lK.below hb))
  have HCV := Lib.hid (fun w' (hb : Below w.heap.size w w') => rightVolumes_any V (fun x hx => (wV x hx).2.2.2) AV nV cV w.heap.size hV bV w' hb.size (lV.below hb))
  obtain ⟨R, hR⟩ : ∃ R, rtN ⟨kd, I, K, V⟩ = R := ⟨_, rfl⟩
  rw [hR]
  have HR := Lib.hid hR
  unfold rtN at HR
  dsimp only at HR
  rw [← hI, ← hK, ← hV] at HR
  clear hI hK hV lI lK lV wK wV hR HLI HLK HLV HWK HWV
  by_cases h1 : kd = 1
  · by_cases c1 : nK = 0
    · have snK : ((nK : Int) == 0) = true := by rw [beq_iff_eq]; omega
      by_cases c2 : nV = 0
      · have snV : ((nV : Int) == 0) = true := by rw [beq_iff_eq]; omega
        have HQ := Lib.hid (fun w => rightCount_any nI w)
        have HX := Lib.hid (show R = (okCount nI && It.rt I) by rw [← HR.out]; simp [h1, c1, c2])
        clear HR c1 c2
        generalize okCount nI = p at *
        generalize It.rt I = q at *
        cases p
        · have H1 := Lib.hid h1
          clear h1
          go_enter Tryz.func53, Tryz.ntmps53
          go_wp2_with fail
          generalize w.alloc _ = w0 at *
          have a0 : w0.cell? ⟨w.heap.size, 0, none⟩ = some (.int .u8 kd) := cell_of_row _ _ 0 _ _ _ HR0.out
          have a1 : w0.cell? ⟨w.heap.size, 1, none⟩ = some (.slice AI nI cI) := cell_of_row _ _ 1 _ _ _ HR0.out
          have a2 : w0.cell? ⟨w.heap.size, 2, none⟩ = some (.slice AK nK cK) := cell_of_row _ _ 2 _ _ _ HR0.out
          have a3 : w0.cell? ⟨w.heap.size, 3, none⟩ = some (.slice AV nV cV) := cell_of_row _ _ 3 _ _ _ HR0.out
          go_quiet (fail)
          have HB1 := Lib.hid (below_drewN HB0.out nq)
          have b0 : (w0.drewN nq).cell? ⟨w.heap.size, 0, none⟩ = some (.int .u8 kd) := a0
          have b1 : (w0.drewN nq).cell? ⟨w.heap.size, 1, none⟩ = some (.slice AI nI cI) := a1
          have b2 : (w0.drewN nq).cell? ⟨w.heap.size, 2, none⟩ = some (.slice AK nK cK) := a2
          have b3 : (w0.drewN nq).cell? ⟨w.heap.size, 3, none⟩ = some (.slice AV nV cV) := a3
          clear a0 a1 a2 a3 HB0 HR0
          generalize World.drewN _ _ = W1 at *
          have q1 : ((kd : Int) == 1) = true := by rw [H1.out]; rfl
          go_wp2_with (first | (go_at_call 89; refine (HQ.out _).mono ?_; rintro e w' ⟨rfl, rfl⟩))
          go_ret
          exact ⟨by rw [HX.out]; rfl, HB1.out⟩
        · cases q
          · rw [show It.errF false = Value.int .i64 4 from rfl] at HCI
            have H1 := Lib.hid h1
            clear h1
            go_enter Tryz.func53, Tryz.ntmps53
            go_wp2_with fail
            generalize w.alloc _ = w0 at *
            have a0 : w0.cell? ⟨w.heap.size, 0, none⟩ = some (.int .u8 kd) := cell_of_row _ _ 0 _ _ _ HR0.out
            have a1 : w0.cell? ⟨w.heap.size, 1, none⟩ = some (.slice AI nI cI) := cell_of_row _ _ 1 _ _ _ HR0.out
            have a2 : w0.cell? ⟨w.heap.size, 2, none⟩ = some (.slice AK nK cK) := cell_of_row _ _ 2 _ _ _ HR0.out
            have a3 : w0.cell? ⟨w.heap.size, 3, none⟩ = some (.slice AV nV cV) := cell_of_row _ _ 3 _ _ _ HR0.out
            go_quiet (fail)
            have HB1 := Lib.hid (below_drewN HB0.out nq)
            have b0 : (w0.drewN nq).cell? ⟨w.heap.size, 0, none⟩ = some (.int .u8 kd) := a0
            have b1 : (w0.drewN nq).cell? ⟨w.heap.size, 1, none⟩ = some (.slice AI nI cI) := a1
            have b2 : (w0.drewN nq).cell? ⟨w.heap.size, 2, none⟩ = some (.slice AK nK cK) := a2
            have b3 : (w0.drewN nq).cell? ⟨w.heap.size, 3, none⟩ = some (.slice AV nV cV) := a3
            clear a0 a1 a2 a3 HB0 HR0
            generalize World.drewN _ _ = W1 at *
            have q1 : ((kd : Int) == 1) = true := by rw [H1.out]; rfl
            go_wp2_with (first | (go_at_call 89; refine (HQ.out _).mono ?_; rintro e w' ⟨rfl, rfl⟩) | (go_at_call 90; refine (HCI.out _ HB1.out).mono ?_; rintro e w3 ⟨rfl, hb3⟩))
            go_ret
            exact ⟨by rw [HX.out]; rfl, HB1.out.trans (hb3.mono HB1.out.size)⟩
          · rw [show It.errF true = Value.int .i64 0 from rfl] at HCI
            have H1 := Lib.hid h1
            clear h1
            go_enter Tryz.func53, Tryz.ntmps53
            go_wp2_with fail
            generalize w.alloc _ = w0 at *
            have a0 : w0.cell? ⟨w.heap.size, 0, none⟩ = some (.int .u8 kd) := cell_of_row _ _ 0 _ _ _ HR0.out
            have a1 : w0.cell? ⟨w.heap.size, 1, none⟩ = some (.slice AI nI cI) := cell_of_row _ _ 1 _ _ _ HR0.out
            have a2 : w0.cell? ⟨w.heap.size, 2, none⟩ = some (.slice AK nK cK) := cell_of_row _ _ 2 _ _ _ HR0.out
            have a3 : w0.cell? ⟨w.heap.size, 3, none⟩ = some (.slice AV nV cV) := cell_of_row _ _ 3 _ _ _ HR0.out
            go_quiet (fail)
            have HB1 := Lib.hid (below_drewN HB0.out nq)
            have b0 : (w0.drewN nq).cell? ⟨w.heap.size, 0, none⟩ = some (.int .u8 kd) := a0
            have b1 : (w0.drewN nq).cell? ⟨w.heap.size, 1, none⟩ = some (.slice AI nI cI) := a1
            have b2 : (w0.drewN nq).cell? ⟨w.heap.size, 2, none⟩ = some (.slice AK nK cK) := a2
            have b3 : (w0.drewN nq).cell? ⟨w.heap.size, 3, none⟩ = some (.slice AV nV cV) := a3
            clear a0 a1 a2 a3 HB0 HR0
            generalize World.drewN _ _ = W1 at *
            have q1 : ((kd : Int) == 1) = true := by rw [H1.out]; rfl
            go_wp2_with (first | (go_at_call 89; refine (HQ.out _).mono ?_; rintro e w' ⟨rfl, rfl⟩) | (go_at_call 90; refine (HCI.out _ HB1.out).mono ?_; rintro e w3 ⟨rfl, hb3⟩))
            go_ret
            exact ⟨by rw [HX.out]; rfl, HB1.out.trans (hb3.mono HB1.out.size)⟩
      · have snV : ((nV : Int) == 0) = false := by rw [beq_eq_false_iff_ne]; omega
        have HX := Lib.hid (show R = false by rw [← HR.out]; simp [h1, c1, c2])
        clear HR c1 c2
        have H1 := Lib.hid h1
        clear h1
        go_enter Tryz.func53, Tryz.ntmps53
        go_wp2_with fail
        generalize w.alloc _ = w0 at *
        have a0 : w0.cell? ⟨w.heap.size, 0, none⟩ = some (.int .u8 kd) := cell_of_row _ _ 0 _ _ _ HR0.out
        have a1 : w0.cell? ⟨w.heap.size, 1, none⟩ = some (.slice AI nI cI) := cell_of_row _ _ 1 _ _ _ HR0.out
        have a2 : w0.cell? ⟨w.heap.size, 2, none⟩ = some (.slice AK nK cK) := cell_of_row _ _ 2 _ _ _ HR0.out
        have a3 : w0.cell? ⟨w.heap.size, 3, none⟩ = some (.slice AV nV cV) := cell_of_row _ _ 3 _ _ _ HR0.out
        go_quiet (fail)
        have HB1 := Lib.hid (below_drewN HB0.out nq)
        have b0 : (w0.drewN nq).cell? ⟨w.heap.size, 0, none⟩ = some (.int .u8 kd) := a0
        have b1 : (w0.drewN nq).cell? ⟨w.heap.size, 1, none⟩ = some (.slice AI nI cI) := a1
        have b2 : (w0.drewN nq).cell? ⟨w.heap.size, 2, none⟩ = some (.slice AK nK cK) := a2
        have b3 : (w0.drewN nq).cell? ⟨w.heap.size, 3, none⟩ = some (.slice AV nV cV) := a3
        clear a0 a1 a2 a3 HB0 HR0
        generalize World.drewN _ _ = W1 at *
        have q1 : ((kd : Int) == 1) = true := by rw [H1.out]; rfl
        go_wp2_with fail
        go_ret
        exact ⟨by rw [HX.out]; rfl, HB1.out⟩
    · have snK : ((nK : Int) == 0) = false := by rw [beq_eq_false_iff_ne]; omega
      have HX := Lib.hid (show R = false by rw [← HR.out]; simp [h1, c1])
      clear HR c1
      have H1 := Lib.hid h1
      clear h1
      go_enter Tryz.func53, Tryz.ntmps53
      go_wp2_with fail
      generalize w.alloc _ = w0 at *
      have a0 : w0.cell? ⟨w.heap.size, 0, none⟩ = some (.int .u8 kd) := cell_of_row _ _ 0 _ _ _ HR0.out
      have a1 : w0.cell? ⟨w.heap.size, 1, none⟩ = some (.slice AI nI cI) := cell_of_row _ _ 1 _ _ _ HR0.out
      have a2 : w0.cell? ⟨w.heap.size, 2, none⟩ = some (.slice AK nK cK) := cell_of_row _ _ 2 _ _ _ HR0.out
      have a3 : w0.cell? ⟨w.heap.size, 3, none⟩ = some (.slice AV nV cV) := cell_of_row _ _ 3 _ _ _ HR0.out
      go_quiet (fail)
      have HB1 := Lib.hid (below_drewN HB0.out nq)
      have b0 : (w0.drewN nq).cell? ⟨w.heap.size, 0, none⟩ = some (.int .u8 kd) := a0
      have b1 : (w0.drewN nq).cell? ⟨w.heap.size, 1, none⟩ = some (.slice AI nI cI) := a1
      have b2 : (w0.drewN nq).cell? ⟨w.heap.size, 2, none⟩ = some (.slice AK nK cK) := a2
      have b3 : (w0.drewN nq).cell? ⟨w.heap.size, 3, none⟩ = some (.slice AV nV cV) := a3
      clear a0 a1 a2 a3 HB0 HR0
      generalize World.drewN _ _ = W1 at *
      have q1 : ((kd : Int) == 1) = true := by rw [H1.out]; rfl
      go_wp2_with fail
      go_ret
      exact ⟨by rw [HX.out]; rfl, HB1.out⟩
  by_cases h2 : kd = 2
  · by_cases c1 : nI = 0
    · have snI : ((nI : Int) == 0) = true := by rw [beq_iff_eq]; omega
      by_cases c2 : nV = 0
      · have snV : ((nV : Int) == 0) = true := by rw [beq_iff_eq]; omega
        have HQ := Lib.hid (fun w => rightCount_any nK w)
        have HX := Lib.hid (show R = (okCount nK && rtK none K) by rw [← HR.out]; simp [h1, h2, c1, c2])
        clear HR c1 c2
        generalize okCount nK = p at *
        generalize rtK none K = q at *
        cases p
        · have H1 := Lib.hid h1
          clear h1
          have H2 := Lib.hid h2
          clear h2
          go_enter Tryz.func53, Tryz.ntmps53
          go_wp2_with fail
          generalize w.alloc _ = w0 at *
          have a0 : w0.cell? ⟨w.heap.size, 0, none⟩ = some (.int .u8 kd) := cell_of_row _ _ 0 _ _ _ HR0.out
          have a1 : w0.cell? ⟨w.heap.size, 1, none⟩ = some (.slice AI nI cI) := cell_of_row _ _ 1 _ _ _ HR0.out
          have a2 : w0.cell? ⟨w.heap.size, 2, none⟩ = some (.slice AK nK cK) := cell_of_row _ _ 2 _ _ _ HR0.out
          have a3 : w0.cell? ⟨w.heap.size, 3, none⟩ = some (.slice AV nV cV) := cell_of_row _ _ 3 _ _ _ HR0.out
          go_quiet (fail)
          have HB1 := Lib.hid (below_drewN HB0.out nq)
          have b0 : (w0.drewN nq).cell? ⟨w.heap.size, 0, none⟩ = some (.int .u8 kd) := a0
          have b1 : (w0.drewN nq).cell? ⟨w.heap.size, 1, none⟩ = some (.slice AI nI cI) := a1
          have b2 : (w0.drewN nq).cell? ⟨w.heap.size, 2, none⟩ = some (.slice AK nK cK) := a2
          have b3 : (w0.drewN nq).cell? ⟨w.heap.size, 3, none⟩ = some (.slice AV nV cV) := a3
          clear a0 a1 a2 a3 HB0 HR0
          generalize World.drewN _ _ = W1 at *
          have q1 : ((kd : Int) == 1) = false := by rw [beq_eq_false_iff_ne]; have := H1.out; omega
          have q2 : ((kd : Int) == 2) = true := by rw [H2.out]; rfl
          go_wp2_with (first | (go_at_call 89; refine (HQ.out _).mono ?_; rintro e w' ⟨rfl, rfl⟩))
          go_ret
          exact ⟨by rw [HX.out]; rfl, HB1.out⟩
        · cases q
          · have H1 := Lib.hid h1
            clear h1
            have H2 := Lib.hid h2
            clear h2
            go_enter Tryz.func53, Tryz.ntmps53
            go_wp2_with fail
            generalize w.alloc _ = w0 at *
            have a0 : w0.cell? ⟨w.heap.size, 0, none⟩ = some (.int .u8 kd) := cell_of_row _ _ 0 _ _ _ HR0.out
            have a1 : w0.cell? ⟨w.heap.size, 1, none⟩ = some (.slice AI nI cI) := cell_of_row _ _ 1 _ _ _ HR0.out
            have a2 : w0.cell? ⟨w.heap.size, 2, none⟩ = some (.slice AK nK cK) := cell_of_row _ _ 2 _ _ _ HR0.out
            have a3 : w0.cell? ⟨w.heap.size, 3, none⟩ = some (.slice AV nV cV) := cell_of_row _ _ 3 _ _ _ HR0.out
            go_quiet (fail)
            have HB1 := Lib.hid (below_drewN HB0.out nq)
            have b0 : (w0.drewN nq).cell? ⟨w.heap.size, 0, none⟩ = some (.int .u8 kd) := a0
            have b1 : (w0.drewN nq).cell? ⟨w.heap.size, 1, none⟩ = some (.slice AI nI cI) := a1
            have b2 : (w0.drewN nq).cell? ⟨w.heap.size, 2, none⟩ = some (.slice AK nK cK) := a2
            have b3 : (w0.drewN nq).cell? ⟨w.heap.size, 3, none⟩ = some (.slice AV nV cV) := a3
            clear a0 a1 a2 a3 HB0 HR0
            generalize World.drewN _ _ = W1 at *
            have q1 : ((kd : Int) == 1) = false := by rw [beq_eq_false_iff_ne]; have := H1.out; omega
            have q2 : ((kd : Int) == 2) = true := by rw [H2.out]; rfl
            go_wp2_with (first | (go_at_call 89; refine (HQ.out _).mono ?_; rintro e w' ⟨rfl, rfl⟩) | (go_at_call 91; refine (HCK.out _ HB1.out).mono ?_; rintro e w3 ⟨rfl, hb3⟩))
            go_ret
            exact ⟨by rw [HX.out]; rfl, HB1.out.trans (hb3.mono HB1.out.size)⟩
          · have H1 := Lib.hid h1
            clear h1
            have H2 := Lib.hid h2
            clear h2
            go_enter Tryz.func53, Tryz.ntmps53
            go_wp2_with fail
            generalize w.alloc _ = w0 at *
            have a0 : w0.cell? ⟨w.heap.size, 0, none⟩ = some (.int .u8 kd) := cell_of_row _ _ 0 _ _ _ HR0.out
            have a1 : w0.cell? ⟨w.heap.size, 1, none⟩ = some (.slice AI nI cI) := cell_of_row _ _ 1 _ _ _ HR0.out
            have a2 : w0.cell? ⟨w.heap.size, 2, none⟩ = some (.slice AK nK cK) := cell_of_row _ _ 2 _ _ _ HR0.out
            have a3 : w0.cell? ⟨w.heap.size, 3, none⟩ = some (.slice AV nV cV) := cell_of_row _ _ 3 _ _ _ HR0.out
            go_quiet (fail)
            have HB1 := Lib.hid (below_drewN HB0.out nq)
            have b0 : (w0.drewN nq).cell? ⟨w.heap.size, 0, none⟩ = some (.int .u8 kd) := a0
            have b1 : (w0.drewN nq).cell? ⟨w.heap.size, 1, none⟩ = some (.slice AI nI cI) := a1
            have b2 : (w0.drewN nq).cell? ⟨w.heap.size, 2, none⟩ = some (.slice AK nK cK) := a2
            have b3 : (w0.drewN nq).cell? ⟨w.heap.size, 3, none⟩ = some (.slice AV nV cV) := a3
            clear a0 a1 a2 a3 HB0 HR0
            generalize World.drewN _ _ = W1 at *
            have q1 : ((kd : Int) == 1) = false := by rw [beq_eq_false_iff_ne]; have := H1.out; omega
            have q2 : ((kd : Int) == 2) = true := by rw [H2.out]; rfl
            go_wp2_with (first | (go_at_call 89; refine (HQ.out _).mono ?_; rintro e w' ⟨rfl, rfl⟩) | (go_at_call 91; refine (HCK.out _ HB1.out).mono ?_; rintro e w3 ⟨rfl, hb3⟩))
            go_ret
            exact ⟨by rw [HX.out]; rfl, HB1.out.trans (hb3.mono HB1.out.size)⟩
      · have snV : ((nV : Int) == 0) = false := by rw [beq_eq_false_iff_ne]; omega
        have HX := Lib.hid (show R = false by rw [← HR.out]; simp [h1, h2, c1, c2])
        clear HR c1 c2
        have H1 := Lib.hid h1
        clear h1
        have H2 := Lib.hid h2
        clear h2
        go_enter Tryz.func53, Tryz.ntmps53
        go_wp2_with fail
        generalize w.alloc _ = w0 at *
        have a0 : w0.cell? ⟨w.heap.size, 0, none⟩ = some (.int .u8 kd) := cell_of_row _ _ 0 _ _ _ HR0.out
        have a1 : w0.cell? ⟨w.heap.size, 1, none⟩ = some (.slice AI nI cI) := cell_of_row _ _ 1 _ _ _ HR0.out
        have a2 : w0.cell? ⟨w.heap.size, 2, none⟩ = some (.slice AK nK cK) := cell_of_row _ _ 2 _ _ _ HR0.out
        have a3 : w0.cell? ⟨w.heap.size, 3, none⟩ = some (.slice AV nV cV) := cell_of_row _ _ 3 _ _ _ HR0.out
        go_quiet (fail)
        have HB1 := Lib.hid (below_drewN HB0.out nq)
        have b0 : (w0.drewN nq).cell? ⟨w.heap.size, 0, none⟩ = some (.int .u8 kd) := a0
        have b1 : (w0.drewN nq).cell? ⟨w.heap.size, 1, none⟩ = some (.slice AI nI cI) := a1
        have b2 : (w0.drewN nq).cell? ⟨w.heap.size, 2, none⟩ = some (.slice AK nK cK) := a2
        have b3 : (w0.drewN nq).cell? ⟨w.heap.size, 3, none⟩ = some (.slice AV nV cV) := a3
        clear a0 a1 a2 a3 HB0 HR0
        generalize World.drewN _ _ = W1 at *
        have q1 : ((kd : Int) == 1) = false := by rw [beq_eq_false_iff_ne]; have := H1.out; omega
        have q2 : ((kd : Int) == 2) = true := by rw [H2.out]; rfl
        go_wp2_with fail
        go_ret
        exact ⟨by rw [HX.out]; rfl, HB1.out⟩
    · have snI : ((nI : Int) == 0) = false := by rw [beq_eq_false_iff_ne]; omega
      have HX := Lib.hid (show R = false by rw [← HR.out]; simp [h1, h2, c1])
      clear HR c1
      have H1 := Lib.hid h1
      clear h1
      have H2 := Lib.hid h2
      clear h2
      go_enter Tryz.func53, Tryz.ntmps53
      go_wp2_with fail
      generalize w.alloc _ = w0 at *
      have a0 : w0.cell? ⟨w.heap.size, 0, none⟩ = some (.int .u8 kd) := cell_of_row _ _ 0 _ _ _ HR0.out
      have a1 : w0.cell? ⟨w.heap.size, 1, none⟩ = some (.slice AI nI cI) := cell_of_row _ _ 1 _ _ _ HR0.out
      have a2 : w0.cell? ⟨w.heap.size, 2, none⟩ = some (.slice AK nK cK) := cell_of_row _ _ 2 _ _ _ HR0.out
      have a3 : w0.cell? ⟨w.heap.size, 3, none⟩ = some (.slice AV nV cV) := cell_of_row _ _ 3 _ _ _ HR0.out
      go_quiet (fail)
      have HB1 := Lib.hid (below_drewN HB0.out nq)
      have b0 : (w0.drewN nq).cell? ⟨w.heap.size, 0, none⟩ = some (.int .u8 kd) := a0
      have b1 : (w0.drewN nq).cell? ⟨w.heap.size, 1, none⟩ = some (.slice AI nI cI) := a1
      have b2 : (w0.drewN nq).cell? ⟨w.heap.size, 2, none⟩ = some (.slice AK nK cK) := a2
      have b3 : (w0.drewN nq).cell? ⟨w.heap.size, 3, none⟩ = some (.slice AV nV cV) := a3
      clear a0 a1 a2 a3 HB0 HR0
      generalize World.drewN _ _ = W1 at *
      have q1 : ((kd : Int) == 1) = false := by rw [beq_eq_false_iff_ne]; have := H1.out; omega
      have q2 : ((kd : Int) == 2) = true := by rw [H2.out]; rfl
      go_wp2_with fail
      go_ret
      exact ⟨by rw [HX.out]; rfl, HB1.out⟩
  by_cases h3 : kd = 3
  · by_cases c1 : nI = 0
    · have snI : ((nI : Int) == 0) = true := by rw [beq_iff_eq]; omega
      by_cases c2 : nK = 0
      · have snK : ((nK : Int) == 0) = true := by rw [beq_iff_eq]; omega
        by_cases c3 : nV ≤ 6
        · have s3 : decide ((nV : Int) ≤ 6) = true := by rw [decide_eq_true_iff]; omega
          have HX := Lib.hid (show R = rtV none V by rw [← HR.out]; simp [h1, h2, h3, c1, c2, c3])
          clear HR c1 c2 c3
          generalize rtV none V = q at *
          cases q
          · have H1 := Lib.hid h1
            clear h1
            have H2 := Lib.hid h2
            clear h2
            have H3 := Lib.hid h3
            clear h3
            go_enter Tryz.func53, Tryz.ntmps53
            go_wp2_with fail
            generalize w.alloc _ = w0 at *
            have a0 : w0.cell? ⟨w.heap.size, 0, none⟩ = some (.int .u8 kd) := cell_of_row _ _ 0 _ _ _ HR0.out
            have a1 : w0.cell? ⟨w.heap.size, 1, none⟩ = some (.slice AI nI cI) := cell_of_row _ _ 1 _ _ _ HR0.out
            have a2 : w0.cell? ⟨w.heap.size, 2, none⟩ = some (.slice AK nK cK) := cell_of_row _ _ 2 _ _ _ HR0.out
            have a3 : w0.cell? ⟨w.heap.size, 3, none⟩ = some (.slice AV nV cV) := cell_of_row _ _ 3 _ _ _ HR0.out
            go_quiet (fail)
            have HB1 := Lib.hid (below_drewN HB0.out nq)
            have b0 : (w0.drewN nq).cell? ⟨w.heap.size, 0, none⟩ = some (.int .u8 kd) := a0
            have b1 : (w0.drewN nq).cell? ⟨w.heap.size, 1, none⟩ = some (.slice AI nI cI) := a1
            have b2 : (w0.drewN nq).cell? ⟨w.heap.size, 2, none⟩ = some (.slice AK nK cK) := a2
            have b3 : (w0.drewN nq).cell? ⟨w.heap.size, 3, none⟩ = some (.slice AV nV cV) := a3
            clear a0 a1 a2 a3 HB0 HR0
            generalize World.drewN _ _ = W1 at *
            have q1 : ((kd : Int) == 1) = false := by rw [beq_eq_false_iff_ne]; have := H1.out; omega
            have q2 : ((kd : Int) == 2) = false := by rw [beq_eq_false_iff_ne]; have := H2.out; omega
            have q3 : ((kd : Int) == 3) = true := by rw [H3.out]; rfl
            go_wp2_with (first | (go_at_call 92; refine (HCV.out _ HB1.out).mono ?_; rintro e w3 ⟨rfl, hb3⟩))
            go_ret
            exact ⟨by rw [HX.out]; rfl, HB1.out.trans (hb3.mono HB1.out.size)⟩
          · have H1 := Lib.hid h1
            clear h1
            have H2 := Lib.hid h2
            clear h2
            have H3 := Lib.hid h3
            clear h3
            go_enter Tryz.func53, Tryz.ntmps53
            go_wp2_with fail
            generalize w.alloc _ = w0 at *
            have a0 : w0.cell? ⟨w.heap.size, 0, none⟩ = some (.int .u8 kd) := cell_of_row _ _ 0 _ _ _ HR0.out
            have a1 : w0.cell? ⟨w.heap.size, 1, none⟩ = some (.slice AI nI cI) := cell_of_row _ _ 1 _ _ _ HR0.out
            have a2 : w0.cell? ⟨w.heap.size, 2, none⟩ = some (.slice AK nK cK) := cell_of_row _ _ 2 _ _ _ HR0.out
            have a3 : w0.cell? ⟨w.heap.size, 3, none⟩ = some (.slice AV nV cV) := cell_of_row _ _ 3 _ _ _ HR0.out
            go_quiet (fail)
            have HB1 := Lib.hid (below_drewN HB0.out nq)
            have b0 : (w0.drewN nq).cell? ⟨w.heap.size, 0, none⟩ = some (.int .u8 kd) := a0
            have b1 : (w0.drewN nq).cell? ⟨w.heap.size, 1, none⟩ = some (.slice AI nI cI) := a1
            have b2 : (w0.drewN nq).cell? ⟨w.heap.size, 2, none⟩ = some (.slice AK nK cK) := a2
            have b3 : (w0.drewN nq).cell? ⟨w.heap.size, 3, none⟩ = some (.slice AV nV cV) := a3
            clear a0 a1 a2 a3 HB0 HR0
            generalize World.drewN _ _ = W1 at *
            have q1 : ((kd : Int) == 1) = false := by rw [beq_eq_false_iff_ne]; have := H1.out; omega
            have q2 : ((kd : Int) == 2) = false := by rw [beq_eq_false_iff_ne]; have := H2.out; omega
            have q3 : ((kd : Int) == 3) = true := by rw [H3.out]; rfl
            go_wp2_with (first | (go_at_call 92; refine (HCV.out _ HB1.out).mono ?_; rintro e w3 ⟨rfl, hb3⟩))
            go_ret
            exact ⟨by rw [HX.out]; rfl, HB1.out.trans (hb3.mono HB1.out.size)⟩
        · have s3 : decide ((nV : Int) ≤ 6) = false := by rw [decide_eq_false_iff_not]; omega
          have HX := Lib.hid (show R = false by rw [← HR.out]; simp [h1, h2, h3, c1, c2, c3])
          clear HR c1 c2 c3
          have H1 := Lib.hid h1
          clear h1
          have H2 := Lib.hid h2
          clear h2
          have H3 := Lib.hid h3
          clear h3
          go_enter Tryz.func53, Tryz.ntmps53
          go_wp2_with fail
          generalize w.alloc _ = w0 at *
          have a0 : w0.cell? ⟨w.heap.size, 0, none⟩ = some (.int .u8 kd) := cell_of_row _ _ 0 _ _ _ HR0.out
          have a1 : w0.cell? ⟨w.heap.size, 1, none⟩ = some (.slice AI nI cI) := cell_of_row _ _ 1 _ _ _ HR0.out
          have a2 : w0.cell? ⟨w.heap.size, 2, none⟩ = some (.slice AK nK cK) := cell_of_row _ _ 2 _ _ _ HR0.out
          have a3 : w0.cell? ⟨w.heap.size, 3, none⟩ = some (.slice AV nV cV) := cell_of_row _ _ 3 _ _ _ HR0.out
          go_quiet (fail)
          have HB1 := Lib.hid (below_drewN HB0.out nq)
          have b0 : (w0.drewN nq).cell? ⟨w.heap.size, 0, none⟩ = some (.int .u8 kd) := a0
          have b1 : (w0.drewN nq).cell? ⟨w.heap.size, 1, none⟩ = some (.slice AI nI cI) := a1
          have b2 : (w0.drewN nq).cell? ⟨w.heap.size, 2, none⟩ = some (.slice AK nK cK) := a2
          have b3 : (w0.drewN nq).cell? ⟨w.heap.size, 3, none⟩ = some (.slice AV nV cV) := a3
          clear a0 a1 a2 a3 HB0 HR0
          generalize World.drewN _ _ = W1 at *
          have q1 : ((kd : Int) == 1) = false := by rw [beq_eq_false_iff_ne]; have := H1.out; omega
          have q2 : ((kd : Int) == 2) = false := by rw [beq_eq_false_iff_ne]; have := H2.out; omega
          have q3 : ((kd : Int) == 3) = true := by rw [H3.out]; rfl
          go_wp2_with fail
          go_ret
          exact ⟨by rw [HX.out]; rfl, HB1.out⟩
      · have snK : ((nK : Int) == 0) = false := by rw [beq_eq_false_iff_ne]; omega
        have HX := Lib.hid (show R = false by rw [← HR.out]; simp [h1, h2, h3, c1, c2])
        clear HR c1 c2
        have H1 := Lib.hid h1
        clear h1
        have H2 := Lib.hid h2
        clear h2
        have H3 := Lib.hid h3
        clear h3
        go_enter Tryz.func53, Tryz.ntmps53
        go_wp2_with fail
        generalize w.alloc _ = w0 at *
        have a0 : w0.cell? ⟨w.heap.size, 0, none⟩ = some (.int .u8 kd) := cell_of_row _ _ 0 _ _ _ HR0.out
        have a1 : w0.cell? ⟨w.heap.size, 1, none⟩ = some (.slice AI nI cI) := cell_of_row _ _ 1 _ _ _ HR0.out
        have a2 : w0.cell? ⟨w.heap.size, 2, none⟩ = some (.slice AK nK cK) := cell_of_row _ _ 2 _ _ _ HR0.out
        have a3 : w0.cell? ⟨w.heap.size, 3, none⟩ = some (.slice AV nV cV) := cell_of_row _ _ 3 _ _ _ HR0.out
        go_quiet (fail)
        have HB1 := Lib.hid (below_drewN HB0.out nq)
        have b0 : (w0.drewN nq).cell? ⟨w.heap.size, 0, none⟩ = some (.int .u8 kd) := a0
        have b1 : (w0.drewN nq).cell? ⟨w.heap.size, 1, none⟩ = some (.slice AI nI cI) := a1
        have b2 : (w0.drewN nq).cell? ⟨w.heap.size, 2, none⟩ = some (.slice AK nK cK) := a2
        have b3 : (w0.drewN nq).cell? ⟨w.heap.size, 3, none⟩ = some (.slice AV nV cV) := a3
        clear a0 a1 a2 a3 HB0 HR0
        generalize World.drewN _ _ = W1 at *
        have q1 : ((kd : Int) == 1) = false := by rw [beq_eq_false_iff_ne]; have := H1.out; omega
        have q2 : ((kd : Int) == 2) = false := by rw [beq_eq_false_iff_ne]; have := H2.out; omega
        have q3 : ((kd : Int) == 3) = true := by rw [H3.out]; rfl
        go_wp2_with fail
        go_ret
        exact ⟨by rw [HX.out]; rfl, HB1.out⟩
    · have snI : ((nI : Int) == 0) = false := by rw [beq_eq_false_iff_ne]; omega
      have HX := Lib.hid (show R = false by rw [← HR.out]; simp [h1, h2, h3, c1])
      clear HR c1
      have H1 := Lib.hid h1
      clear h1
      have H2 := Lib.hid h2
      clear h2
      have H3 := Lib.hid h3
      clear h3
      go_enter Tryz.func53, Tryz.ntmps53
      go_wp2_with fail
      generalize w.alloc _ = w0 at *
      have a0 : w0.cell? ⟨w.heap.size, 0, none⟩ = some (.int .u8 kd) := cell_of_row _ _ 0 _ _ _ HR0.out
      have a1 : w0.cell? ⟨w.heap.size, 1, none⟩ = some (.slice AI nI cI) := cell_of_row _ _ 1 _ _ _ HR0.out
      have a2 : w0.cell? ⟨w.heap.size, 2, none⟩ = some (.slice AK nK cK) := cell_of_row _ _ 2 _ _ _ HR0.out
      have a3 : w0.cell? ⟨w.heap.size, 3, none⟩ = some (.slice AV nV cV) := cell_of_row _ _ 3 _ _ _ HR0.out
      go_quiet (fail)
      have HB1 := Lib.hid (below_drewN HB0.out nq)
      have b0 : (w0.drewN nq).cell? ⟨w.heap.size, 0, none⟩ = some (.int .u8 kd) := a0
      have b1 : (w0.drewN nq).cell? ⟨w.heap.size, 1, none⟩ = some (.slice AI nI cI) := a1
      have b2 : (w0.drewN nq).cell? ⟨w.heap.size, 2, none⟩ = some (.slice AK nK cK) := a2
      have b3 : (w0.drewN nq).cell? ⟨w.heap.size, 3, none⟩ = some (.slice AV nV cV) := a3
      clear a0 a1 a2 a3 HB0 HR0
      generalize World.drewN _ _ = W1 at *
      have q1 : ((kd : Int) == 1) = false := by rw [beq_eq_false_iff_ne]; have := H1.out; omega
      have q2 : ((kd : Int) == 2) = false := by rw [beq_eq_false_iff_ne]; have := H2.out; omega
      have q3 : ((kd : Int) == 3) = true := by rw [H3.out]; rfl
      go_wp2_with fail
      go_ret
      exact ⟨by rw [HX.out]; rfl, HB1.out⟩
  · have HX := Lib.hid (show R = false by rw [← HR.out]; simp [h1, h2, h3])
    clear HR
    have H1 := Lib.hid h1
    clear h1
    have H2 := Lib.hid h2
    clear h2
    have H3 := Lib.hid h3
    clear h3
    go_enter Tryz.func53, Tryz.ntmps53
    go_wp2_with fail
    generalize w.alloc _ = w0 at *
    have a0 : w0.cell? ⟨w.heap.size, 0, none⟩ = some (.int .u8 kd) := cell_of_row _ _ 0 _ _ _ HR0.out
    have a1 : w0.cell? ⟨w.heap.size, 1, none⟩ = some (.slice AI nI cI) := cell_of_row _ _ 1 _ _ _ HR0.out
    have a2 : w0.cell? ⟨w.heap.size, 2, none⟩ = some (.slice AK nK cK) := cell_of_row _ _ 2 _ _ _ HR0.out
    have a3 : w0.cell? ⟨w.heap.size, 3, none⟩ = some (.slice AV nV cV) := cell_of_row _ _ 3 _ _ _ HR0.out
    go_quiet (fail)
    have HB1 := Lib.hid (below_drewN HB0.out nq)
    have b0 : (w0.drewN nq).cell? ⟨w.heap.size, 0, none⟩ = some (.int .u8 kd) := a0
    have b1 : (w0.drewN nq).cell? ⟨w.heap.size, 1, none⟩ = some (.slice AI nI cI) := a1
    have b2 : (w0.drewN nq).cell? ⟨w.heap.size, 2, none⟩ = some (.slice AK nK cK) := a2
    have b3 : (w0.drewN nq).cell? ⟨w.heap.size, 3, none⟩ = some (.slice AV nV cV) := a3
    clear a0 a1 a2 a3 HB0 HR0
    generalize World.drewN _ _ = W1 at *
    have q1 : ((kd : Int) == 1) = false := by rw [beq_eq_false_iff_ne]; have := H1.out; omega
    have q2 : ((kd : Int) == 2) = false := by rw [beq_eq_false_iff_ne]; have := H2.out; omega
    have q3 : ((kd : Int) == 3) = false := by rw [beq_eq_false_iff_ne]; have := H3.out; omega
    go_wp2_with fail
    go_ret
    exact ⟨by rw [HX.out]; rfl, HB1.out⟩
set_option maxRecDepth 100000 in
set_option maxHeartbeats 4000000 in
theorem check_any (n : Nd) (hw : Wd n) (cs : Array Value) (w : World) (hn : NdAt w cs n) :
    Calls Tryz.prog 22 #[.agg cs] w fun e w' => e = .returned (.int .i64 (ckN n)) ∧ Below w.heap.size w w' := by
  have hcz := hn.size
  have HI := Lib.hid (show (Tryz.prog.info? 27).map (·.size) = some cs.size by rw [hcz]; kernel_rfl)
  have hb0 : Below w.heap.size w (w.alloc (.cells cs 27)) := (Below.refl _ _).alloc (Nat.le_refl _) _
  have HB0 := Lib.hid hb0
  have HR0 := Lib.hid (heap_alloc_new w (.cells cs 27))
  have HN := Lib.hid hn
  have HC1 := Lib.hid (fun w' (hb : Below w.heap.size w w') => right_any n hw cs w' (hn.below hb))
  clear hb0 hcz
  by_cases hr : rtN n = true
  · have HC2 := Lib.hid (fun w' (hb : Below w.heap.size w w') => size_any n (rt_few hr) cs w' (hn.below hb))
    rw [hr] at HC1
    obtain ⟨C, hC⟩ : ∃ C, ckN n = C := ⟨_, rfl⟩
    have HX := Lib.hid (show C = if 508 < szN n then 2 else 0 by rw [← hC]; unfold ckN; rw [if_pos hr])
    rw [hC]
    clear hC hr hn
    generalize szN n = Z at *
    by_cases hz : 508 < Z
    · have q : decide ((508 : Int) < (Z : Int)) = true := by rw [decide_eq_true_iff]; omega
      have HX2 := Lib.hid (show C = 2 by rw [HX.out, if_pos hz])
      clear HX hz
      go_enter Tryz.func22, Tryz.ntmps22
      go_wp2_with (first
        | (refine wpList_load_row rfl 27 (.tmp 1) rfl w.heap.size rfl 27 cs (0, 0) _ HR0.out Tryz.underlying27 rfl HI.out ?_)
        | (go_at_call 53; refine (HC1.out _ HB0.out).mono ?_; rintro e w3 ⟨rfl, hb3⟩; have HB3 := Lib.hid (HB0.out.trans (hb3.mono HB0.out.size)); have HR3 := Lib.hid ((hb3.block _ (row_lt HR0.out)).trans HR0.out); clear hb3)
        | (refine wpList_load_row rfl 27 (.tmp 1) rfl w.heap.size rfl 27 cs (0, 0) _ HR3.out Tryz.underlying27 rfl HI.out ?_)
        | (go_at_call 24; refine (HC2.out _ HB3.out).mono ?_; rintro e w4 ⟨rfl, hb4, hz4⟩; have HB4 := Lib.hid (HB3.out.trans (hb4.mono HB3.out.size)); clear hb4))
      go_ret
      exact ⟨by rw [HX2.out]; rfl, HB4.out⟩
    · have q : decide ((508 : Int) < (Z : Int)) = false := by rw [decide_eq_false_iff_not]; omega
      have HX2 := Lib.hid (show C = 0 by rw [HX.out, if_neg hz])
      clear HX hz
      go_enter Tryz.func22, Tryz.ntmps22
      go_wp2_with (first
        | (refine wpList_load_row rfl 27 (.tmp 1) rfl w.heap.size rfl 27 cs (0, 0) _ HR0.out Tryz.underlying27 rfl HI.out ?_)
        | (go_at_call 53; refine (HC1.out _ HB0.out).mono ?_; rintro e w3 ⟨rfl, hb3⟩; have HB3 := Lib.hid (HB0.out.trans (hb3.mono HB0.out.size)); have HR3 := Lib.hid ((hb3.block _ (row_lt HR0.out)).trans HR0.out); clear hb3)
        | (refine wpList_load_row rfl 27 (.tmp 1) rfl w.heap.size rfl 27 cs (0, 0) _ HR3.out Tryz.underlying27 rfl HI.out ?_)
        | (go_at_call 24; refine (HC2.out _ HB3.out).mono ?_; rintro e w4 ⟨rfl, hb4, hz4⟩; have HB4 := Lib.hid (HB3.out.trans (hb4.mono HB3.out.size)); clear hb4))
      go_ret
      exact ⟨by rw [HX2.out]; rfl, HB4.out⟩
  · have hr : rtN n = false := by simpa using hr
    rw [hr] at HC1
    have HX2 := Lib.hid (show ckN n = 4 by unfold ckN; rw [hr]; rfl)
    rw [HX2.out]
    clear hr hn
    go_enter Tryz.func22, Tryz.ntmps22
    go_wp2_with (first
      | (refine wpList_load_row rfl 27 (.tmp 1) rfl w.heap.size rfl 27 cs (0, 0) _ HR0.out Tryz.underlying27 rfl HI.out ?_)
      | (go_at_call 53; refine (HC1.out _ HB0.out).mono ?_; rintro e w3 ⟨rfl, hb3⟩))
    go_ret
    exact ⟨rfl, HB0.out.trans (hb3.mono HB0.out.size)⟩
end Go.Proofs.YtlchjohaacbkpaaGreatDoor.Nd
