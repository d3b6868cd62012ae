/- Contract of package hash's through: the state behind a text of whole pieces. -/
import Derived.Test.YtjkmfonngbendaaGreatDoorShaC
import Derived.Deep.RegionWith
import Derived.Lib.Strings
namespace Go.Proofs.YtjkmfonngbendaaGreatDoor.Hk
set_option linter.unusedVariables false
open Go.ChangeShapes Go.WideShapes Go.ChangeAt Go.RowKit
variable {tK tS : TypeId}
def pieces (K : List (BitVec 32)) (s : St) (l : List UInt8) : Nat → St
  | 0 => s
  | n + 1 => piece K (pieces K s l n) ((l.drop (64 * n)).take 64)
theorem row_below {w w' : World} {B g : Nat} {t : TypeId} {l : List (BitVec 32)} (h : Row w g t l) (hb : Below B w w') (hg : g < B) : Row w' g t l := (hb.block g hg).trans h
theorem cell_below {w w' : World} {b o : Nat} {v : Value} (h : w.cell? ⟨b, o, none⟩ = some v) (hb : Below w.heap.size w w') (hl : b < w.heap.size) : w'.cell? ⟨b, o, none⟩ = some v := (hb.cell hl).trans h
theorem Row.lt {w : World} {g : Nat} {t : TypeId} {l : List (BitVec 32)} (h : Row w g t l) : g < w.heap.size := by
  rcases Nat.lt_or_ge g w.heap.size with h' | h'
  · exact h'
  · unfold Row at h
    rw [Array.getElem?_eq_none h'] at h
    cases h
def Eight (w : World) (B : Nat) (s : St) : Prop := w.cell? ⟨B, 0, none⟩ = some (.int .u32 (vN s.a)) ∧ w.cell? ⟨B, 1, none⟩ = some (.int .u32 (vN s.b)) ∧ w.cell? ⟨B, 2, none⟩ = some (.int .u32 (vN s.c)) ∧ w.cell? ⟨B, 3, none⟩ = some (.int .u32 (vN s.d)) ∧ w.cell? ⟨B, 4, none⟩ = some (.int .u32 (vN s.e)) ∧ w.cell? ⟨B, 5, none⟩ = some (.int .u32 (vN s.f)) ∧ w.cell? ⟨B, 6, none⟩ = some (.int .u32 (vN s.g)) ∧ w.cell? ⟨B, 7, none⟩ = some (.int .u32 (vN s.h))
theorem Row.eight {w : World} {g : Nat} {t : TypeId} {s : St} (h : Row w g t s.list) : Eight w g s :=
  ⟨h.cell (j := 0) rfl, h.cell (j := 1) rfl, h.cell (j := 2) rfl, h.cell (j := 3) rfl, h.cell (j := 4) rfl, h.cell (j := 5) rfl, h.cell (j := 6) rfl, h.cell (j := 7) rfl⟩
theorem eight_below {w w' : World} {B : Nat} {s : St} (h : Eight w B s) (hb : Below w.heap.size w w') (hl : B < w.heap.size) : Eight w' B s :=
  ⟨cell_below h.1 hb hl, cell_below h.2.1 hb hl, cell_below h.2.2.1 hb hl, cell_below h.2.2.2.1 hb hl, cell_below h.2.2.2.2.1 hb hl, cell_below h.2.2.2.2.2.1 hb hl, cell_below h.2.2.2.2.2.2.1 hb hl, cell_below h.2.2.2.2.2.2.2 hb hl⟩
theorem words_lit (s : ByteArray) (hs : s.size = 64) (w : World) :
    Calls Tryz.prog 117 #[.string s] w fun e w' => ∃ W, W = wl (wd s.data.toList) 64 ∧ e = .returned (.agg (arr W)) ∧ Below w.heap.size w w' :=
  (words_any s hs w).mono fun _ _ h => ⟨_, rfl, h.1, h.2⟩
theorem wl_len {W : List (BitVec 32)} {f : Nat → BitVec 32} {n : Nat} (h : W = wl f n) : W.length = n := by rw [h, wl_length]
theorem step_lit (s : St) (K W : List (BitVec 32)) (hW : W.length = 64) (hK : K.length = 64) (w : World) (hg : 1 < w.heap.size) (hR : Row w 1 tK K) :
    Calls Tryz.prog 116 #[.agg #[.int .u32 (vN s.a), .int .u32 (vN s.b), .int .u32 (vN s.c), .int .u32 (vN s.d), .int .u32 (vN s.e), .int .u32 (vN s.f), .int .u32 (vN s.g), .int .u32 (vN s.h)], .agg (arr W)] w fun e w' => ∃ p : St, p = s.plus (rounds8 K W s 64) ∧ e = .returned (.agg #[.int .u32 (vN p.a), .int .u32 (vN p.b), .int .u32 (vN p.c), .int .u32 (vN p.d), .int .u32 (vN p.e), .int .u32 (vN p.f), .int .u32 (vN p.g), .int .u32 (vN p.h)]) ∧ Below w.heap.size w w' :=
  (step_any s K W hW hK w hg hR).mono fun _ _ h => ⟨_, rfl, h.1, h.2⟩
set_option maxRecDepth 100000 in
set_option maxHeartbeats 1000000 in
theorem through_any (s : St) (K : List (BitVec 32)) (hK : K.length = 64) (x : ByteArray) (n : Nat) (hx : x.size = 64 * n) (hxl : x.size ≤ 281474976710656) (w : World) (hg : 1 < w.heap.size) (hR : Row w 1 tK K) :
    Calls Tryz.prog 66 #[.agg #[.int .u32 (vN s.a), .int .u32 (vN s.b), .int .u32 (vN s.c), .int .u32 (vN s.d), .int .u32 (vN s.e), .int .u32 (vN s.f), .int .u32 (vN s.g), .int .u32 (vN s.h)], .string x] w fun e w' => e = .returned (.agg (stV (pieces K s x.data.toList n))) ∧ Below w.heap.size w w' := by
  have HR := Lib.hid hR
  have HX := Lib.hid hx
  clear hR hx
  go_enter Tryz.func66, Tryz.ntmps66
  go_wp2
  go_loopw [5] (fun v wr => ∃ t : Nat, t ≤ n ∧ v = .int .i64 (64 * t : Nat) ∧ Row wr w.heap.size 122 (pieces K s x.data.toList t).list ∧ Row wr (w.heap.size + 1) 122 (List.replicate 8 0#32) ∧ Below w.heap.size w wr) (fun v _ => x.size - (intOf v).toNat)
  case atStart => exact ⟨0, Nat.zero_le _, rfl, heap_alloc2_old w _ _, heap_alloc2_new w _ _, ((Below.refl _ _).alloc (Nat.le_refl _) _).alloc (by simp) _⟩
  case round =>
    obtain ⟨t, ht, rfl, r0, r1, hbel⟩ := hrel
    by_cases hlt : t < n
    · obtain ⟨m, hm⟩ : ∃ m, m = 64 * t := ⟨_, rfl⟩
      rw [← hm]
      have hm1 : m + 64 ≤ x.size := by have := HX.out; omega
      have hm2 : (m : Int) < x.size := by omega
      obtain ⟨q, hq⟩ : ∃ q, q = pieces K s x.data.toList t := ⟨_, rfl⟩
      rw [← hq] at r0
      have C := r0.eight
      unfold Eight at C
      have hB := r0.lt
      have HM := Lib.hid hm
      have HQ := Lib.hid hq
      clear hm hq
      have hwr : IntKind.i64.wrap ((m : Int) + 64) = (m : Int) + 64 := IntWalk.i64_in _ ⟨by omega, by omega⟩
      have z0 : 0 ≤ (m : Int) := by omega
      have z1 : (m : Int) + 64 ≤ x.size := by omega
      have z2 : (m : Int) ≤ (m : Int) + 64 := by omega
      have z3 : 0 ≤ (m : Int) + 64 := by omega
      have z4 : ((m : Int) + 64).toNat = m + 64 := by omega
      have hsz : (x.extract m (m + 64)).size = 64 := by rw [ByteArray.size_extract]; omega
      have HSZ := Lib.hid hsz
      have hrK : Row wr 1 tK K := row_below HR.out hbel hg
      have HRK := Lib.hid hrK
      have R0 := Lib.hid r0
      have R1 := Lib.hid r1
      have RD0 := Lib.hid (show Row wr.drew w.heap.size 122 q.list from r0)
      have RD1 := Lib.hid (show Row wr.drew (w.heap.size + 1) 122 (List.replicate 8 0#32) from r1)
      have hB1 : w.heap.size + 1 < wr.drew.heap.size := r1.lt
      have HE := Lib.hid (show Eight wr.drew w.heap.size q from r0.eight)
      have HRD := Lib.hid (show Row wr.drew 1 tK K from hrK)
      have hbd : Below w.heap.size w wr.drew := hbel.drew
      clear hsz hrK r0 r1 hm1
      go_wp2
      go_region_with (first
          | (go_at_call 117; (with_reducible refine (words_lit _ HSZ.out _).mono ?_); rintro e w5 ⟨W5, hW5, rfl, hb5⟩; have HL := Lib.hid (wl_len hW5); have HW5 := Lib.hid hW5; clear hW5; have C5 := eight_below HE.out hb5 hB; unfold Eight at C5; have hl5 := hb5.size; have K5 := Lib.hid (row_below HRD.out hb5 (Nat.lt_of_lt_of_le hg hbd.size)); have E5 := Lib.hid (row_below RD0.out hb5 hB); have F5 := Lib.hid (row_below RD1.out hb5 hB1); have B5 := Lib.hid (hbd.trans (hb5.mono hbd.size)))
          | (go_at_call 116; (with_reducible refine (step_lit q K W5 HL.out hK _ (Nat.lt_of_lt_of_le (Nat.lt_of_lt_of_le hg hbd.size) hl5) K5.out).mono ?_); rintro e w6 ⟨p, hp, rfl, hb6⟩; have HP := Lib.hid hp; clear hp; have E6 := row_below E5.out hb6 (Nat.lt_of_lt_of_le hB hl5); have F6 := Lib.hid (row_below F5.out hb6 (Nat.lt_of_lt_of_le hB1 hl5)); have B6 := Lib.hid (B5.out.trans (hb6.mono B5.out.size)); have C6 := E6.eight; unfold Eight at C6; have G6 := Lib.hid E6; have fr := E6.free; clear E6))
      all_goals
        go_wp2
        go_roundw
        case rel =>
          have hne : w.heap.size + 1 ≠ w.heap.size := by omega
          have hrow : Row _ w.heap.size 122 p.list := ((((((((G6.out.set 0 p.a).set 1 p.b).set 2 p.c).set 3 p.d).set 4 p.e).set 5 p.f).set 6 p.g).set 7 p.h)
          have hp : p = pieces K s x.data.toList (t + 1) := by
            rw [HP.out, HW5.out, pieces, ← HQ.out, piece, Lib.extract_data, ← HM.out, show m + 64 - m = 64 by omega]
          rw [hp] at hrow
          refine ⟨t + 1, by omega, ?_, ?_, ?_, ?_⟩
          · rw [show 64 * (t + 1) = m + 64 by have := HM.out; omega]; go_num
          · rw [← hp] at hrow ⊢; exact hrow
          · exact ((((((((F6.out.other w.heap.size 0 _ hne).other w.heap.size 1 _ hne).other w.heap.size 2 _ hne).other w.heap.size 3 _ hne).other w.heap.size 4 _ hne).other w.heap.size 5 _ hne).other w.heap.size 6 _ hne).other w.heap.size 7 _ hne)
          · exact ((((((((B6.out.setCell (p := ⟨w.heap.size, 0, none⟩) (Nat.le_refl _) _).setCell (p := ⟨w.heap.size, 1, none⟩) (Nat.le_refl _) _).setCell (p := ⟨w.heap.size, 2, none⟩) (Nat.le_refl _) _).setCell (p := ⟨w.heap.size, 3, none⟩) (Nat.le_refl _) _).setCell (p := ⟨w.heap.size, 4, none⟩) (Nat.le_refl _) _).setCell (p := ⟨w.heap.size, 5, none⟩) (Nat.le_refl _) _).setCell (p := ⟨w.heap.size, 6, none⟩) (Nat.le_refl _) _).setCell (p := ⟨w.heap.size, 7, none⟩) (Nat.le_refl _) _)
        case measure =>
          have := HM.out
          have := HX.out
          simp [intOf]; omega
    · obtain rfl : t = n := by omega
      obtain ⟨m, hm⟩ : ∃ m, m = 64 * t := ⟨_, rfl⟩
      rw [← hm]
      have hm2 : (x.size : Int) ≤ (m : Int) := by have := HX.out; omega
      have hm3 : decide ((m : Int) < (x.size : Int)) = false := by simp; have := HX.out; omega
      obtain ⟨q, hq⟩ : ∃ q, q = pieces K s x.data.toList t := ⟨_, rfl⟩
      rw [← hq] at r0
      have C := r0.eight
      unfold Eight at C
      have HQ := Lib.hid hq
      have R1 := Lib.hid (show wr.heap[w.heap.size + 1]? = some (.cells (arr (List.replicate 8 0#32)) 122 (0, 0)) from r1)
      clear hm hq r0 r1
      go_wp2_with (first
        | (refine wpList_store_row rfl 122 (.tmp 4) (.tmp 20) rfl (w.heap.size + 1) (stV q) rfl rfl 122 (arr (List.replicate 8 0#32)) R1.out infoS8 rfl (stV_one _) ?_))
      have hg2 := setRow_heap wr (w.heap.size + 1) (arr (List.replicate 8 0#32)) (stV q) 122 (0, 0) R1.out
      refine bodyPost_ret (v := .agg (stV q)) (results_cell_row rfl _ _ (w.heap.size + 1) 122 (stV q) (0, 0) _ rfl hg2 Tryz.underlying122 rfl infoS8) rfl ⟨by rw [HQ.out], below_setRow hbel (by omega) _⟩
end Go.Proofs.YtjkmfonngbendaaGreatDoor.Hk
