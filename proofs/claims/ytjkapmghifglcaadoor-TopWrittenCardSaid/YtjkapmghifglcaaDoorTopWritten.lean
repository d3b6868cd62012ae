/- THE PROGRAM'S LAW cambiumtop.TopWritten ANSWERS TRUE FOR EVERY INPUT, and leaves its argument as it was. The two variables that it reads hold what the program's text lays there. The walk of the law's text is in the texts that are imported; here is the frame, and the tied card. -/
import Derived.Test.YtjkapmghifglcaaDoorRows
import Derived.Test.YtjkapmghifglcaaDoorTie
import Derived.Test.YtjkapmghifglcaaDoorCards
import Derived.Test.YtjkapmghifglcaaDoorTwW
import Derived.Test.YtjkapmghifglcaaDoorMgF
import Derived.Test.YtjkapmghifglcaaDoorLaidH
import Derived.WalkKit
import Derived.ProofKit
import Derived.LaidMore
import Derived.Lay
import Derived.OpenShut
import Derived.ShutString
import Derived.ChangeOld
import Derived.Below
import Derived.Carry
import Derived.SizedLaws
import Derived.Stop.Joined
import Derived.SevenTiedAt
namespace Go.Proofs.YtjkapmghifglcaaDoor.topWritten
open Go.ChangeShapes Go.WideShapes Go.ChangeAt Go.RowKit
open Go.ChangeMaps (open_string shut_string)
open Hk (vN Row)
set_option linter.unusedVariables false
def laid : List (String × DataW Unit) := [("unicode/utf8.acceptRanges", Rows.laid_unicode_utf8_acceptRanges), ("cambium/hash.firstState", Rows.laid_cambium_hash_firstState), ("cambium/hash.roundWords", Rows.laid_cambium_hash_roundWords), ("unicode/utf8.first", Rows.laid_unicode_utf8_first)]
theorem own : ownKnob Tryd.prog.godebug = none := by kernel_rfl
theorem gF : Tryd.prog.globalNamed "cambium/hash.firstState" = some 0 := by kernel_rfl
theorem gK : Tryd.prog.globalNamed "cambium/hash.roundWords" = some 1 := by kernel_rfl
theorem tF : (Tryd.prog.globals[0]?).map (·.type) = some 94 := by kernel_rfl
theorem tK : (Tryd.prog.globals[1]?).map (·.type) = some 124 := by kernel_rfl
theorem cW : Tryd.prog.cellsOf 22 = 1 := by kernel_rfl
theorem cS : Tryd.prog.cellsOf 94 = 8 := by kernel_rfl
theorem cK : Tryd.prog.cellsOf 124 = 64 := by kernel_rfl
theorem dF : (Rows.laid_cambium_hash_firstState : DataW Unit) = .agg (Hk.first.list.map fun x => .lit (.int .u32 (vN x))) := by kernel_rfl
theorem dK : (Rows.laid_cambium_hash_roundWords : DataW Unit) = .agg (Hk.kc.map fun x => .lit (.int .u32 (vN x))) := by kernel_rfl
theorem laidOut : laidOutB Tryd.prog = true := by kernel_rfl
/-- WHAT THE CONDITION GIVES THE WALK: the two tables' blocks. -/
theorem of_laid {W : World} (h : laidMetH Tryd.prog laid W) : ∃ tS tW, Row W 1 tW Hk.kc ∧ Row W 0 tS Hk.first.list := by
  rw [MakeChecks.laidMetH_plain _ _ _ (by kernel_rfl)] at h
  obtain ⟨ps, ⟨ga, ta, csa, fa, pa, qa, hga, hta, hva, hda, ⟨g0, t0, cs0, f0, p0, q0, hg0, ht0, hv0, hd0, ⟨g1, t1, cs1, f1, p1, q1, hg1, ht1, hv1, hd1, ⟨gb, tb, csb, fb, pb, qb, hgb, htb, hvb, hdb, hrb, hqb⟩, hq1⟩, hq0⟩, hqa⟩, _, hall⟩ := h
  obtain rfl := Option.some.inj (gF.symm.trans hg0)
  obtain rfl := Option.some.inj (gK.symm.trans hg1)
  obtain rfl := Option.some.inj (tF.symm.trans ht0)
  obtain rfl := Option.some.inj (tK.symm.trans ht1)
  rw [dF] at hd0
  rw [dK] at hd1
  have e0 := Hk.cells_of_trod Tryd.underlying94 Tryd.underlying22 cW cS hd0
  have e1 := Hk.cells_of_trod Tryd.underlying124 Tryd.underlying22 cW cK hd1
  have hps : ∀ b off, MemPlace.cell b off ∈ ps → ∃ c t, W.heap[b]? = some (.cells c t (0, 0)) := fun b off hm => (hall b off hm).1
  obtain ⟨tS, r0⟩ := Hk.row_of_laid hg0 hv0 e0 (by decide) hps (fun x hx => by rw [hqa, hq0]; simp [hx])
  obtain ⟨tW, r1⟩ := Hk.row_of_laid hg1 hv1 e1 (by decide) hps (fun x hx => by rw [hqa, hq0, hq1]; simp [hx])
  exact ⟨tS, tW, r1, r0⟩
set_option maxRecDepth 100000 in
theorem lifted (os : Os) (started : os.Started) (H : Type) (enc : TypeId × Value → H) :
    ReturnsInHanded {} Tryd.checked os 12 .any (fun w args => (Rows.topWrittenSpec.pre enc Tryd.prog Tryd.f12 [] false w args ∧ laidMetH Tryd.prog laid w) ∧ sizedMet enc Tryd.prog Tryd.f12 (OpenSpec.ofChange Rows.topWrittenSpec) false w args)
      (Rows.topWrittenSpec.post enc Tryd.prog Tryd.f12 false true false false) := by
  refine returnsInHanded_of_change_and (C := Tryd.checked) (X := fun w _ => laidMetH Tryd.prog laid w) (fun _ _ _ hh h => h.of_heap hh) own started (by kernel_rfl) Tryd.func12
    (ChangeSpec.witness_shaped (enc := enc) (C := Tryd.checked) (os := os) (X := fun w _ => laidMetH Tryd.prog laid w) false (World.laidAll Tryd.prog os laid) #[.slice none 0 0, .slice none 0 0, .slice none 0 0] 8 (World.laidAll_os _ _ _)
      (World.shaped_of_ZipB (by kernel_rfl) (by kernel_rfl)) (by kernel_rfl) (by kernel_rfl) (by kernel_rfl)
      (by rw [MakeChecks.laidMetH_plain _ _ _ (by kernel_rfl)]; exact laidMet_laidAll _ (by kernel_rfl) (by kernel_rfl))) ?_
  intro W base args ds gs before hval0 hW hcnd hsz0 hL hholds
  have hval : ∀ (j : Nat) t v, Tryd.f12.params[j]? = some t → args[j]? = some v → Value.okWide Tryd.prog W .any base t v := hval0
  have hsz : (DataW.weightsEach Tryd.prog (Tryd.f12.params.toList ++ Rows.topWrittenSpec.plain.varTypes Tryd.prog) (ds ++ gs)).all (· ≤ reachBytes) = true := hsz0
  have hW' := hW
  obtain ⟨p, q, hA0, hV, rfl, hfz, hnd⟩ := hW
  have hA : DataW.TrodAll enc Tryd.prog W 0 (fun _ => true) true Tryd.f12.params.toList args.toList ds p := hA0
  rw [Tryd.params12] at hA hval hsz
  obtain ⟨v0, vs0, d0, ds0, p0, q0, hargs, rfl, rfl, h0, r0⟩ := trodAll_cons hA
  obtain ⟨v1, vs1, d1, ds1, p1, q1, rfl, rfl, rfl, h1, r1⟩ := trodAll_cons r0
  obtain ⟨v2, vs2, d2, ds2, p2, q2, rfl, rfl, rfl, h2, r2⟩ := trodAll_cons r1
  obtain ⟨rfl, rfl, rfl⟩ := trodAll_nil r2
  obtain rfl : args = #[v0, v1, v2] := by cases args; simp_all
  obtain ⟨rfl, rfl⟩ := trodVars_none hV
  have k0 := h0
  have lt0 : ∀ x ∈ p0, x.block < W.heap.size := by obtain ⟨m, hm⟩ := k0; exact DataW.trod_lt m _ _ _ hm
  obtain ⟨b0, len0, cap0, e0⟩ := okWide_slice Tryd.underlying49 (hval 0 49 v0 rfl rfl)
  obtain ⟨A0, n0, c0, D0, f0, g0, i0, j0⟩ := Fr.argI h0 (by rw [e0]; rfl) (Fr.each hsz (j := 0) rfl rfl)
  clear e0
  have k1 := h1
  have lt1 : ∀ x ∈ p1, x.block < W.heap.size := by obtain ⟨m, hm⟩ := k1; exact DataW.trod_lt m _ _ _ hm
  obtain ⟨b1, len1, cap1, e1⟩ := okWide_slice Tryd.underlying37 (hval 1 37 v1 rfl rfl)
  obtain ⟨A1, n1, c1, D1, f1, g1⟩ := Fr.argK h1 (by rw [e1]; rfl)
  clear e1
  have k2 := h2
  have lt2 : ∀ x ∈ p2, x.block < W.heap.size := by obtain ⟨m, hm⟩ := k2; exact DataW.trod_lt m _ _ _ hm
  obtain ⟨b2, len2, cap2, e2⟩ := okWide_slice Tryd.underlying37 (hval 2 37 v2 rfl rfl)
  obtain ⟨A2, n2, c2, D2, f2, g2⟩ := Fr.argK h2 (by rw [e2]; rfl)
  clear e2
  subst f0
  subst f1
  subst f2
  obtain ⟨tS, tW, hK, hF⟩ := of_laid hL
  clear hA0 hval0 hnd hfz hsz0 hsz
  refine (Dv.topWritten_walk W D0 A0 n0 c0 g0 i0 j0 D1 A1 n1 c1 g1 D2 A2 n2 c2 g2 hK hF).mono fun e W' ⟨he, bel⟩ => ?_
  subst he
  exact ⟨_, rfl, _, _, _, [], _, [], hW', trodAll_mk1 (shut_bool Tryd.underlying4 _), (trodAll_cons_mk (Below.trod laidOut (by kernel_rfl) (of_decide_eq_true (by kernel_rfl)) k0 bel lt0) (trodAll_cons_mk (Below.trod laidOut (by kernel_rfl) (of_decide_eq_true (by kernel_rfl)) k1 bel lt1) (trodAll_cons_mk (Below.trod laidOut (by kernel_rfl) (of_decide_eq_true (by kernel_rfl)) k2 bel lt2) trodAll_mk0))), rfl, bel.frame _, fun h => by cases h⟩
theorem over : Rows.TopWrittenSaid :=
  OpenClaim.holds_of_wide 12 Tryd.f12 rfl rfl rfl rfl rfl rfl rfl ⟨rfl, rfl, rfl, rfl, rfl⟩ rfl rfl rfl rfl rfl (by kernel_rfl) Tryd.func12 (by kernel_rfl)
    (of_decide_eq_true (by kernel_rfl)) (by unfold Func.isWrapper; first | (rw [if_pos (by decide +kernel)]; kernel_rfl) | (rw [if_neg (by decide +kernel)]; exact ⟨rfl, rfl⟩))
    (fun os started H enc _ => lifted os started H enc)
theorem proved : Rows.TopWrittenCardSaid :=
  Claim7.holds_tied_plain_at .later [] [.data, .data, .data, .pinned] true _ false
    over (fun _ h => by cases h) (by kernel_rfl) (fun _ h => by cases h) topWritten_row_tie rfl ⟨rfl, rfl⟩ (by kernel_rfl) rfl
    (fun f fn hf hfn => by
      obtain rfl : f = 12 := Option.some.inj ((show Tryd.prog.funcNamed "cambium/cambiumtop.TopWritten" = some 12 by kernel_rfl).symm.trans hf) |>.symm
      obtain rfl : fn = Tryd.f12 := (Option.some.inj (Tryd.func12.symm.trans hfn)).symm
      exact ⟨by kernel_rfl, fun j t ht => by
        rw [Tryd.params12] at ht
        have hm : t ∈ [49, 37, 37] := by simpa using Array.mem_of_getElem? ht
        have hall : ([49, 37, 37].all fun u => !Tryd.prog.wantsStandIn u) = true := by kernel_rfl
        exact (show Tryd.prog.wantsStandIn t = false by simpa using List.all_eq_true.1 hall t hm)⟩)
    (by kernel_rfl)
#print axioms proved
end Go.Proofs.YtjkapmghifglcaaDoor.topWritten
