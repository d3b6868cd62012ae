/- THE PROGRAM'S LAW cambiumtop.TopKeyed ANSWERS TRUE FOR EVERY INPUT, and leaves its arguments as they were. The two variables that it reads hold what the program's text lays there. The walk of the law's text is in the texts that are imported; here is the frame, and the tied card. -/
import Derived.Test.YtkmbophbjgfacaaDoorRows
import Derived.Test.YtkmbophbjgfacaaDoorTie
import Derived.Test.YtkmbophbjgfacaaDoorCards
import Derived.Test.YtkmbophbjgfacaaDoorTkW
import Derived.Test.YtkmbophbjgfacaaDoorLaidH
import Derived.WalkKit
import Derived.ProofKit
import Derived.LaidMore
import Derived.Lay
import Derived.OpenShut
import Derived.ShutString
import Derived.ChangeOld
import Derived.Below
import Derived.Carry
import Derived.SizedLaws
import Derived.Stop.Joined
import Derived.SevenTiedAt
namespace Go.Proofs.YtkmbophbjgfacaaDoor.topKeyed
open Go.ChangeShapes Go.WideShapes Go.ChangeAt Go.RowKit
open Go.ChangeMaps (open_string shut_string)
open Hk (vN Row)
set_option linter.unusedVariables false
def laid : List (String × DataW Unit) := [("cambium/hash.firstState", Rows.laid_cambium_hash_firstState), ("cambium/hash.roundWords", Rows.laid_cambium_hash_roundWords)]
theorem own : ownKnob Tryd.prog.godebug = none := by kernel_rfl
theorem gF : Tryd.prog.globalNamed "cambium/hash.firstState" = some 0 := by kernel_rfl
theorem gK : Tryd.prog.globalNamed "cambium/hash.roundWords" = some 1 := by kernel_rfl
theorem tF : (Tryd.prog.globals[0]?).map (·.type) = some 72 := by kernel_rfl
theorem tK : (Tryd.prog.globals[1]?).map (·.type) = some 93 := by kernel_rfl
theorem cW : Tryd.prog.cellsOf 22 = 1 := by kernel_rfl
theorem cS : Tryd.prog.cellsOf 72 = 8 := by kernel_rfl
theorem cK : Tryd.prog.cellsOf 93 = 64 := by kernel_rfl
theorem dF : (Rows.laid_cambium_hash_firstState : DataW Unit) = .agg (Hk.first.list.map fun x => .lit (.int .u32 (vN x))) := by kernel_rfl
theorem dK : (Rows.laid_cambium_hash_roundWords : DataW Unit) = .agg (Hk.kc.map fun x => .lit (.int .u32 (vN x))) := by kernel_rfl
theorem laidOut : laidOutB Tryd.prog = true := by kernel_rfl
/-- WHAT THE CONDITION GIVES THE WALK: the two tables' blocks. -/
theorem of_laid {W : World} (h : laidMetH Tryd.prog laid W) : ∃ tS tW, Row W 1 tW Hk.kc ∧ Row W 0 tS Hk.first.list := by
  rw [MakeChecks.laidMetH_plain _ _ _ (by kernel_rfl)] at h
  obtain ⟨ps, ⟨g0, t0, cs0, f0, p0, q0, hg0, ht0, hv0, hd0, ⟨g1, t1, cs1, f1, p1, q1, hg1, ht1, hv1, hd1, hr1, hq1⟩, hq0⟩, _, hall⟩ := h
  obtain rfl := Option.some.inj (gF.symm.trans hg0)
  obtain rfl := Option.some.inj (gK.symm.trans hg1)
  obtain rfl := Option.some.inj (tF.symm.trans ht0)
  obtain rfl := Option.some.inj (tK.symm.trans ht1)
  rw [dF] at hd0
  rw [dK] at hd1
  have e0 := Hk.cells_of_trod Tryd.underlying72 Tryd.underlying22 cW cS hd0
  have e1 := Hk.cells_of_trod Tryd.underlying93 Tryd.underlying22 cW cK hd1
  have hps : ∀ b off, MemPlace.cell b off ∈ ps → ∃ c t, W.heap[b]? = some (.cells c t (0, 0)) := fun b off hm => (hall b off hm).1
  obtain ⟨tS, r0⟩ := Hk.row_of_laid hg0 hv0 e0 (by decide) hps (fun x hx => by rw [hq0]; simp [hx])
  obtain ⟨tW, r1⟩ := Hk.row_of_laid hg1 hv1 e1 (by decide) hps (fun x hx => by rw [hq0, hq1]; simp [hx])
  exact ⟨tS, tW, r1, r0⟩
set_option maxRecDepth 100000 in
theorem lifted (os : Os) (started : os.Started) (H : Type) (enc : TypeId × Value → H) :
    ReturnsInHanded {} Tryd.checked os 3 .any (fun w args => (Rows.topKeyedSpec.pre enc Tryd.prog Tryd.f3 [] false w args ∧ laidMetH Tryd.prog laid w) ∧ sizedMet enc Tryd.prog Tryd.f3 (OpenSpec.ofChange Rows.topKeyedSpec) false w args)
      (Rows.topKeyedSpec.post enc Tryd.prog Tryd.f3 false true false false) := by
  refine returnsInHanded_of_change_and (C := Tryd.checked) (X := fun w _ => laidMetH Tryd.prog laid w) (fun _ _ _ hh h => h.of_heap hh) own started (by kernel_rfl) Tryd.func3
    (ChangeSpec.witness_shaped (enc := enc) (C := Tryd.checked) (os := os) (X := fun w _ => laidMetH Tryd.prog laid w) false (World.laidAll Tryd.prog os laid) #[.string ByteArray.empty, .int .u32 0] 8 (World.laidAll_os _ _ _)
      (World.shaped_of_ZipB (by kernel_rfl) (by kernel_rfl)) (by kernel_rfl) (by kernel_rfl) (by kernel_rfl)
      (by rw [MakeChecks.laidMetH_plain _ _ _ (by kernel_rfl)]; exact laidMet_laidAll _ (by kernel_rfl) (by kernel_rfl))) ?_
  intro W base args ds gs before hval0 hW hcnd hsz0 hL hholds
  have hval : ∀ (j : Nat) t v, Tryd.f3.params[j]? = some t → args[j]? = some v → Value.okWide Tryd.prog W .any base t v := hval0
  have hsz : (DataW.weightsEach Tryd.prog (Tryd.f3.params.toList ++ Rows.topKeyedSpec.plain.varTypes Tryd.prog) (ds ++ gs)).all (· ≤ reachBytes) = true := hsz0
  have hW' := hW
  obtain ⟨p, q, hA0, hV, rfl, hfz, hnd⟩ := hW
  have hA : DataW.TrodAll enc Tryd.prog W 0 (fun _ => true) true Tryd.f3.params.toList args.toList ds p := hA0
  rw [Tryd.params3] at hA hval hsz
  obtain ⟨v0, vs0, d0, ds0, p0, q0, hargs, rfl, rfl, h0, r0⟩ := trodAll_cons hA
  obtain ⟨v1, vs1, d1, ds1, p1, q1, rfl, rfl, rfl, h1, r1⟩ := trodAll_cons r0
  obtain ⟨rfl, rfl, rfl⟩ := trodAll_nil r1
  obtain rfl : args = #[v0, v1] := by cases args; simp_all
  obtain ⟨rfl, rfl⟩ := trodVars_none hV
  obtain ⟨a0, rfl, rfl, rfl, w0⟩ := open_string Tryd.underlying9 (hval 0 9 v0 rfl rfl) h0
  obtain ⟨i1, rfl, rfl, rfl, w1⟩ := open_int Tryd.underlying22 (hval 1 22 v1 rfl rfl) h1
  have wf1 : 0 ≤ i1 ∧ i1 < 4294967296 := by
    have h : (decide (IntKind.u32.min ≤ i1) && decide (i1 ≤ IntKind.u32.max)) = true := w1
    rw [Bool.and_eq_true, decide_eq_true_iff, decide_eq_true_iff] at h
    have e1 : IntKind.u32.min = 0 := by decide
    have e2 : IntKind.u32.max = 4294967295 := by decide
    rw [e1, e2] at h
    omega
  obtain ⟨n1, hi1, hn1⟩ : ∃ n1 : Nat, i1 = (n1 : Int) ∧ n1 < 4294967296 := ⟨i1.toNat, by omega, by omega⟩
  subst hi1
  obtain ⟨tS, tW, hK, hF⟩ := of_laid hL
  clear hA0 hval0 hnd hfz hsz0 hsz
  refine (Ino.topKeyed_walk W a0 w0 n1 hn1 hK hF).mono fun e W' ⟨he, bel⟩ => ?_
  subst he
  exact ⟨_, rfl, _, _, _, [], _, [], hW', trodAll_mk1 (shut_bool Tryd.underlying4 _), (trodAll_cons_mk (shut_string Tryd.underlying9 w0) (trodAll_cons_mk (shut_int Tryd.underlying22 w1) trodAll_mk0)), rfl, bel.frame _, fun h => by cases h⟩
theorem over : Rows.TopKeyedSaid :=
  OpenClaim.holds_of_wide 3 Tryd.f3 rfl rfl rfl rfl rfl rfl rfl ⟨rfl, rfl, rfl, rfl, rfl⟩ rfl rfl rfl rfl rfl (by kernel_rfl) Tryd.func3 (by kernel_rfl)
    (of_decide_eq_true (by kernel_rfl)) (by unfold Func.isWrapper; first | (rw [if_pos (by decide +kernel)]; kernel_rfl) | (rw [if_neg (by decide +kernel)]; exact ⟨rfl, rfl⟩))
    (fun os started H enc _ => lifted os started H enc)
theorem proved : Rows.TopKeyedCardSaid :=
  Claim7.holds_tied_plain_at .later [] [.data, .data] true _ false
    over (fun _ h => by cases h) (by kernel_rfl) (fun _ h => by cases h) topKeyed_row_tie rfl ⟨rfl, rfl⟩ (by kernel_rfl) rfl
    (fun f fn hf hfn => by
      obtain rfl : f = 3 := Option.some.inj ((show Tryd.prog.funcNamed "cambium/cambiumtop.TopKeyed" = some 3 by kernel_rfl).symm.trans hf) |>.symm
      obtain rfl : fn = Tryd.f3 := (Option.some.inj (Tryd.func3.symm.trans hfn)).symm
      exact ⟨by kernel_rfl, fun j t ht => by
        rw [Tryd.params3] at ht
        have hm : t ∈ [9, 22] := by simpa using Array.mem_of_getElem? ht
        have hall : ([9, 22].all fun u => !Tryd.prog.wantsStandIn u) = true := by kernel_rfl
        exact (show Tryd.prog.wantsStandIn t = false by simpa using List.all_eq_true.1 hall t hm)⟩)
    (by kernel_rfl)
#print axioms proved
end Go.Proofs.YtkmbophbjgfacaaDoor.topKeyed
