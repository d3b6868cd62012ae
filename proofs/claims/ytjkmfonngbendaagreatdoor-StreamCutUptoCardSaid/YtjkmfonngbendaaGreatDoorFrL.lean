/- What the condition gives of the two tables of the hash, where they are listed alone, and where the two of utf8 are listed too. -/
import Derived.Test.YtjkmfonngbendaaGreatDoorRows
import Derived.Test.YtjkmfonngbendaaGreatDoorLaidH
import Derived.Test.YtjkmfonngbendaaGreatDoorShaF
import Derived.LaidMore
namespace Go.Proofs.YtjkmfonngbendaaGreatDoor.Fr
set_option linter.unusedVariables false
set_option maxRecDepth 100000
open Go.ChangeShapes
theorem gF : Tryz.prog.globalNamed "cambium/hash.firstState" = some 0 := by kernel_rfl
theorem gK : Tryz.prog.globalNamed "cambium/hash.roundWords" = some 1 := by kernel_rfl
theorem tF : (Tryz.prog.globals[0]?).map (·.type) = some 122 := by kernel_rfl
theorem tK : (Tryz.prog.globals[1]?).map (·.type) = some 190 := by kernel_rfl
theorem cW1 : Tryz.prog.cellsOf 22 = 1 := by kernel_rfl
theorem cS8 : Tryz.prog.cellsOf 122 = 8 := by kernel_rfl
theorem cK64 : Tryz.prog.cellsOf 190 = 64 := by kernel_rfl
theorem dF : (Rows.laid_cambium_hash_firstState : DataW Unit) = .agg (Hk.first.list.map fun x => .lit (.int .u32 (Hk.vN x))) := by kernel_rfl
theorem dK : (Rows.laid_cambium_hash_roundWords : DataW Unit) = .agg (Hk.kc.map fun x => .lit (.int .u32 (Hk.vN x))) := by kernel_rfl
def laid2 : List (String × DataW Unit) := [("cambium/hash.firstState", Rows.laid_cambium_hash_firstState), ("cambium/hash.roundWords", Rows.laid_cambium_hash_roundWords)]
def laid4 : List (String × DataW Unit) := [("unicode/utf8.acceptRanges", Rows.laid_unicode_utf8_acceptRanges), ("cambium/hash.firstState", Rows.laid_cambium_hash_firstState), ("cambium/hash.roundWords", Rows.laid_cambium_hash_roundWords), ("unicode/utf8.first", Rows.laid_unicode_utf8_first)]
theorem of_laid2 {W : World} (h : laidMetH Tryz.prog laid2 W) : ∃ tS tW, Hk.Row W 1 tW Hk.kc ∧ Hk.Row W 0 tS Hk.first.list := by
  rw [MakeChecks.laidMetH_plain _ _ _ (by kernel_rfl)] at h
  obtain ⟨ps, ⟨g0, t0, cs0, f0, p0, q0, hg0, ht0, hv0, hd0, ⟨g1, t1, cs1, f1, p1, q1, hg1, ht1, hv1, hd1, hr1, hq1⟩, hq0⟩, _, hall⟩ := h
  obtain rfl := Option.some.inj (gF.symm.trans hg0)
  obtain rfl := Option.some.inj (gK.symm.trans hg1)
  obtain rfl := Option.some.inj (tF.symm.trans ht0)
  obtain rfl := Option.some.inj (tK.symm.trans ht1)
  rw [dF] at hd0
  rw [dK] at hd1
  have e0 := Hk.cells_of_trod Tryz.underlying122 Tryz.underlying22 cW1 cS8 hd0
  have e1 := Hk.cells_of_trod Tryz.underlying190 Tryz.underlying22 cW1 cK64 hd1
  have hps : ∀ b off, MemPlace.cell b off ∈ ps → ∃ c t, W.heap[b]? = some (.cells c t (0, 0)) := fun b off hm => (hall b off hm).1
  obtain ⟨tS, r0⟩ := Hk.row_of_laid hg0 hv0 e0 (by decide) hps (fun x hx => by rw [hq0]; simp [hx])
  obtain ⟨tW, r1⟩ := Hk.row_of_laid hg1 hv1 e1 (by decide) hps (fun x hx => by rw [hq0, hq1]; simp [hx])
  exact ⟨tS, tW, r1, r0⟩
theorem of_laid4 {W : World} (h : laidMetH Tryz.prog laid4 W) : ∃ tS tW, Hk.Row W 1 tW Hk.kc ∧ Hk.Row W 0 tS Hk.first.list := by
  rw [MakeChecks.laidMetH_plain _ _ _ (by kernel_rfl)] at h
  obtain ⟨ps, ⟨ga, ta, csa, fa, pa, qa, hga, hta, hva, hda, ⟨g0, t0, cs0, f0, p0, q0, hg0, ht0, hv0, hd0, ⟨g1, t1, cs1, f1, p1, q1, hg1, ht1, hv1, hd1, ⟨gb, tb, csb, fb, pb, qb, hgb, htb, hvb, hdb, hrb, hqb⟩, hq1⟩, hq0⟩, hqa⟩, _, hall⟩ := h
  obtain rfl := Option.some.inj (gF.symm.trans hg0)
  obtain rfl := Option.some.inj (gK.symm.trans hg1)
  obtain rfl := Option.some.inj (tF.symm.trans ht0)
  obtain rfl := Option.some.inj (tK.symm.trans ht1)
  rw [dF] at hd0
  rw [dK] at hd1
  have e0 := Hk.cells_of_trod Tryz.underlying122 Tryz.underlying22 cW1 cS8 hd0
  have e1 := Hk.cells_of_trod Tryz.underlying190 Tryz.underlying22 cW1 cK64 hd1
  have hps : ∀ b off, MemPlace.cell b off ∈ ps → ∃ c t, W.heap[b]? = some (.cells c t (0, 0)) := fun b off hm => (hall b off hm).1
  obtain ⟨tS, r0⟩ := Hk.row_of_laid hg0 hv0 e0 (by decide) hps (fun x hx => by rw [hqa, hq0]; simp [hx])
  obtain ⟨tW, r1⟩ := Hk.row_of_laid hg1 hv1 e1 (by decide) hps (fun x hx => by rw [hqa, hq0, hq1]; simp [hx])
  exact ⟨tS, tW, r1, r0⟩
end Go.Proofs.YtjkmfonngbendaaGreatDoor.Fr
