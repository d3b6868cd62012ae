/- Contract of package item's place: where a key stands in a list, by halves. -/
import Derived.Test.YtjkmfonngbendaaGreatDoorRows
import Derived.Test.YtjkmfonngbendaaGreatDoorItB
import Derived.Test.YtjkmfonngbendaaGreatDoorChE
import Derived.Test.YtjkmfonngbendaaGreatDoorGb1
import Derived.Test.YtjkmfonngbendaaGreatDoorJtC
import Derived.Test.YtjkmfonngbendaaGreatDoorRgT
import Derived.ChangeKeysEq
import Derived.StillTailTactics
import Derived.BigQuiet
import Derived.LoopTactic
import Derived.Deep.CutRange
import Derived.WalkKit
import Derived.ProofKit
import Derived.Handy
import Derived.Deep.QuietTactic
import Derived.Deep.MidRow
import Derived.Tactics
import Derived.Tactics2
import Derived.Defers
import Derived.Laws.Pointers
import Derived.Laws.LoneSync
import Derived.Laws.NewBlocks
import Derived.RegionTactic
import Derived.RegionCalls
import Derived.ChangeAlike
import Derived.Outline
import Derived.Lib.Hide
namespace Go.Proofs.YtjkmfonngbendaaGreatDoor.It
set_option linter.unusedVariables false
set_option maxRecDepth 100000
open Go.ChangeShapes Go.WideShapes Go.ChangeAt Go.RowKit
open Ar Rg St
abbrev lt := By.bl
theorem O : Ord lt := By.blOrd
def icf (x : Itm) (k : ByteArray) : Int := Lib.compareBytes (key x) k.data.toList
theorem placeCmp_any (x : Itm) (k : ByteArray) (w : World) :
    Calls Tryz.prog 128 #[.agg (enc x).toArray, .string k] w fun e w' => e = .returned (.int .i64 (icf x k)) ∧ Below w.heap.size w w' := by
  show Calls Tryz.prog 128 #[.agg #[.string x.k, .string x.v], .string k] w _
  have HG := Lib.hid (show Below w.heap.size w (w.alloc (.cells #[.string x.k, .string x.v] 82)) from (Below.refl _ w).alloc (Nat.le_refl _) _)
  go_enter Tryz.func128, Tryz.ntmps128
  go_wp2_with (go_at_call 85; refine (Sc.compare_any _ _ _).mono ?_; rintro e w' ⟨rfl, rfl⟩)
  go_ret
  exact ⟨rfl, HG.out⟩
theorem take_ltI {Y : List Itm} {p : Nat} {k : List UInt8} (hs : Srt key lt Y) (h : p = 0 ∨ ∃ z, Y[p - 1]? = some z ∧ lt (key z) k = true) : ∀ y ∈ Y.take p, lt (key y) k = true := by
  rcases h with rfl | ⟨z, hz, hlt⟩
  · simp
  · rcases Nat.eq_zero_or_pos p with h0 | h0
    · subst h0; simp
    · intro y hy
      have e : Y.take p = Y.take (p - 1) ++ [z] := by
        rw [show p = (p - 1) + 1 by omega, List.take_add_one, show (p - 1 + 1) - 1 = p - 1 by omega] 
        rw [hz]; rfl
      rw [e] at hy
      have hs' : Srt key lt (Y.take (p - 1) ++ [z]) := by rw [← e]; exact List.Pairwise.sublist (List.take_sublist _ _) hs
      rcases List.mem_append.1 hy with hy | hy
      · exact O.le_lt ((Srt.append.1 hs').2.2 y hy z (by simp)) hlt
      · simp at hy; subst hy; exact hlt
theorem drop_geI {Y : List Itm} {p : Nat} {k : List UInt8} (hs : Srt key lt Y) (h : p = Y.length ∨ ∃ z, Y[p]? = some z ∧ lt (key z) k = false) : ∀ y ∈ Y.drop p, lt (key y) k = false := by
  rcases h with rfl | ⟨z, hz, hlt⟩
  · simp
  · obtain ⟨hp, e⟩ := List.getElem?_eq_some_iff.1 hz
    have e2 : Y.drop p = z :: Y.drop (p + 1) := by rw [List.drop_eq_getElem_cons hp, e]
    have hs' : Srt key lt (z :: Y.drop (p + 1)) := by rw [← e2]; exact List.Pairwise.sublist (List.drop_sublist _ _) hs
    rw [e2]
    intro y hy
    rcases List.mem_cons.1 hy with rfl | hy
    · exact hlt
    · have : Srt key lt ([z] ++ Y.drop (p + 1)) := hs'
      exact O.le_trans hlt ((Srt.append.1 this).2.2 z (by simp) y hy)
def GI (D : List Itm) (k : ByteArray) (c : Nat) : Bool := match D[c]? with | some z => !lt (key z) k.data.toList | none => false
theorem GI_at {D : List Itm} {k : ByteArray} {z : Itm} {c : Nat} (h : D[c]? = some z) : GI D k c = !lt (key z) k.data.toList := by unfold GI; rw [h]
/-- p is where a key stands, or would stand -/
def At (D : List Itm) (k : ByteArray) (p : Nat) : Prop := p ≤ D.length ∧ (∀ y ∈ D.take p, lt (key y) k.data.toList = true) ∧ (∀ y ∈ D.drop p, lt (key y) k.data.toList = false)
def found (D : List Itm) (k : ByteArray) (p : Nat) : Bool := match D[p]? with | some y => decide (key y = k.data.toList) | none => false
theorem at_of {D : List Itm} {k : ByteArray} {p : Nat} (hs : Srt key lt D) (h : Sc.Bs (GI D k) 0 D.length p p) : At D k p := by
  obtain ⟨_, _, h1, h2, h3⟩ := h
  refine ⟨h1, take_ltI hs ?_, drop_geI hs ?_⟩
  · rcases h2 with h2 | h2
    · exact .inl h2
    · rcases Nat.eq_zero_or_pos p with h0 | h0
      · exact .inl h0
      · have hz : D[p - 1]? = some (D[p - 1]'(by omega)) := List.getElem?_eq_getElem _
        rw [GI_at hz] at h2
        exact .inr ⟨_, hz, by simpa using h2⟩
  · rcases h3 with h3 | h3
    · exact .inl h3
    · rcases Nat.lt_or_ge p D.length with h0 | h0
      · have hz : D[p]? = some (D[p]'h0) := List.getElem?_eq_getElem _
        rw [GI_at hz] at h3
        exact .inr ⟨_, hz, by simpa using h3⟩
      · exact .inl (by omega)
end Go.Proofs.YtjkmfonngbendaaGreatDoor.It
/- The document's own reading of bytes as a key. -/
namespace Go.Proofs.YtjkmfonngbendaaGreatDoor.Ino
set_option linter.unusedVariables false
set_option linter.unusedSimpArgs false
open Go.ChangeShapes Go.WideShapes Go.ChangeAt Go.RowKit
open BigFrame
open Rg
open Pk (be num be_length num_be num_lt bs bs_size nB nE tN tR tE xB_size ref_bytes ref_take_any)
open Ph (has tl tl_len nb refName_any)
theorem deK_of {s : ByteArray} (h : rkB s) : deK s = rkN s ∧ deKE s = 0 := by
  have h1 := (askK s).1.2 h
  unfold deK deKE
  rw [if_pos h1, if_pos h1]
  exact ⟨((askK s).2 h).symm, rfl⟩
theorem deK_no {s : ByteArray} (h : ¬ rkB s) : deK s = zKy ∧ deKE s = 4 := by
  have h1 : ¬ (okK (tkK s) = true ∧ wrK (tkK s) = s) := fun h2 => h ((askK s).1.1 h2)
  unfold deK deKE
  rw [if_neg h1, if_neg h1]
  exact ⟨rfl, rfl⟩
theorem rkN_lim (s : ByteArray) : (rkN s).lim := by
  have h3 := tN4 (s.extract 1 s.size)
  have h4 := tN4 (tR (s.extract 1 s.size) 4)
  have h5 := kd_le s
  refine ⟨?_, ?_, ?_⟩
  · show kd s < 256; omega
  · simp only [rkN]; omega
  · simp only [rkN]
    split <;> omega
theorem ex_list (s : ByteArray) (i j : Nat) : (s.extract i j).data.toList = (s.data.toList.drop i).take (j - i) := by
  rw [ByteArray.data_extract, Array.toList_extract, List.extract_eq_take_drop]
/-- a kind's letter is the first byte -/
theorem first_letter {s : ByteArray} (h : 1 ≤ s.size) (k : Nat) (h1 : 1 ≤ k) (h2 : k ≤ 4) : (ltB k = s.extract 0 1) ↔ kd s = k := by
  constructor
  · intro e
    have hs : s = ltB k ++ s.extract 1 s.size := by
      rw [e]
      apply ByteArray.ext
      apply Array.toList_inj.1
      rw [ByteArray.data_append, Array.toList_append, ex_list, ex_list, List.drop_zero, List.take_of_length_le (i := s.size - 1) (by rw [List.length_drop, Array.length_toList]; exact Nat.le_refl _)]
      exact (List.take_append_drop 1 _).symm
    have := (kd_app (lt_of h1 h2) (s.extract 1 s.size)).1
    unfold ltB at hs
    rw [← hs] at this
    exact this
  · intro e
    have h0 : kd s ≠ 0 := by omega
    have hh := (head_cut h0).1
    have hl := (kd_app (lt_of h1 h2) ByteArray.empty).2.2
    rw [e] at hh
    have : s.extract 0 1 = ltB k := by
      conv => lhs; rw [← hh]
      exact ByteArray.extract_append_eq_left (by rw [bs_size, hl])
    exact this.symm
theorem below_q (w : World) (q : Nat) : Below w.heap.size w (w.drewN q) := ⟨rfl, rfl, rfl, Nat.le_refl _, fun _ _ => rfl⟩
theorem kinds_cell (i : Nat) (h : i < 4) : (#[.int .u8 1, .int .u8 2, .int .u8 3, .int .u8 4] : Array Value)[i]? = some (.int .u8 ((i + 1 : Nat) : Int)) := by
  rcases (show i = 0 ∨ i = 1 ∨ i = 2 ∨ i = 3 by omega) with rfl | rfl | rfl | rfl <;> rfl
/-- what holds while the document looks for the kind -/
def AtK (s : ByteArray) (g0 g1 : Nat) (w0 wr : World) (i : Nat) : Prop :=
  (kd s = 0 ∨ i + 1 ≤ kd s ∨ ¬ rkB s) ∧ wr.heap[g0]? = some (.cells #[.int .u8 0, .int .u32 0, .string ⟨#[]⟩, .int .u32 0] 37 (0, 0)) ∧ wr.heap[g1]? = some (.cells #[.int .u8 1, .int .u8 2, .int .u8 3, .int .u8 4] 35 (0, 0)) ∧ g0 < wr.heap.size ∧ g1 < wr.heap.size ∧ Below g0 w0 wr
theorem AtK.go {s : ByteArray} {g0 g1 : Nat} {w0 wr w' : World} {i : Nat} (h : AtK s g0 g1 w0 wr i) (hb : Below wr.heap.size wr w') (j : Nat) (hj : kd s = 0 ∨ j + 1 ≤ kd s ∨ ¬ rkB s) : AtK s g0 g1 w0 w' j := by
  obtain ⟨_, a, b, c, d, e⟩ := h
  exact ⟨hj, row_bel a hb c, row_bel b hb d, Nat.lt_of_lt_of_le c hb.size, Nat.lt_of_lt_of_le d hb.size, e.trans (hb.mono (Nat.le_of_lt c))⟩
set_option maxRecDepth 100000 in
set_option maxHeartbeats 4000000 in
theorem refParse_in (s : ByteArray) (hs : s.size ≤ maxLen) (w : World) :
    Calls Tryz.prog 99 #[.string s] w fun e w' => e = .returned (.tuple #[vK (deK s), .int .i64 (deKE s)]) ∧ Below w.heap.size w w' := by
  have R0 := Lib.hid (heap_alloc_new w (.cells #[.int .u8 0, .int .u32 0, .string ⟨#[]⟩, .int .u32 0] 37))
  have B0 := Lib.hid ((Below.refl w.heap.size w).alloc (Nat.le_refl _) (.cells #[.int .u8 0, .int .u32 0, .string ⟨#[]⟩, .int .u32 0] 37))
  have hsz : w.heap.size < (w.alloc (.cells #[.int .u8 0, .int .u32 0, .string ⟨#[]⟩, .int .u32 0] 37)).heap.size := by simp
  have fin : Hid (∀ (V : World), V.heap[w.heap.size]? = some (.cells #[.int .u8 0, .int .u32 0, .string ⟨#[]⟩, .int .u32 0] 37 (0, 0)) → ∀ cs, (V.setRow w.heap.size cs).heap[w.heap.size]? = some (.cells cs 37 (0, 0))) := Lib.hid (fun V h cs => setRow_heap' h)
  by_cases h5 : 5 ≤ s.size
  · have d5 : decide ((s.size : Int) < 5) = false := by simp; omega
    have hpos : 1 ≤ s.size := by omega
    obtain ⟨r0, hr0⟩ : ∃ r, s.extract 1 s.size = r := ⟨_, rfl⟩
    obtain ⟨I, hI⟩ : ∃ K, (tN r0 ((4 : Nat) : Int)).toNat = K := ⟨_, rfl⟩
    obtain ⟨r1, hr1⟩ : ∃ r, tR r0 ((4 : Nat) : Int) = r := ⟨_, rfl⟩
    obtain ⟨x0, hx0⟩ : ∃ r, tE r0 ((4 : Nat) : Int) = r := ⟨_, rfl⟩
    obtain ⟨C, hC⟩ : ∃ K, (tN r1 ((4 : Nat) : Int)).toNat = K := ⟨_, rfl⟩
    obtain ⟨r2, hr2⟩ : ∃ r, tR r1 ((4 : Nat) : Int) = r := ⟨_, rfl⟩
    obtain ⟨x1, hx1⟩ : ∃ r, tE r1 ((4 : Nat) : Int) = r := ⟨_, rfl⟩
    have hn : rkN s = ⟨kd s, I, if kd s = 3 then ByteArray.empty else r1, if kd s = 3 then C else 0⟩ := by subst hr0 hI hr1 hC; rfl
    have HB : Hid (rkB s ↔ (kd s ≠ 0 ∧ (kd s = 3 → x1 = 0 ∧ r2 = ByteArray.empty) ∧ okK (rkN s) = true)) := Lib.hid (by
      have h3 : rkB s ↔ (5 ≤ s.size ∧ kd s ≠ 0 ∧ (kd s = 3 → x1 = 0 ∧ r2 = ByteArray.empty) ∧ okK (rkN s) = true) := by subst hr0 hI hr1 hC hr2 hx1; exact Iff.rfl
      rw [h3]
      exact ⟨fun h => h.2, fun h => ⟨h5, h⟩⟩)
    have z0 : r0.size ≤ maxLen := by rw [← hr0, ByteArray.size_extract]; omega
    have z1 : r1.size ≤ maxLen := by rw [← hr1]; exact Nat.le_trans (tR_le _ _) z0
    have HZ1 := Lib.hid z1
    have hI4 : I < 4294967296 := by have := tN4 r0; rw [← hI]; have h2 : (tN r0 ((4 : Nat) : Int)) = tN r0 4 := rfl; omega
    have hC4 : C < 4294967296 := by have := tN4 r1; rw [← hC]; have h2 : (tN r1 ((4 : Nat) : Int)) = tN r1 4 := rfl; omega
    have C1 := Lib.hid (refTakeNat r0 4 I r1 x0 z0 (by omega) hI hr1 hx0)
    have C2 := Lib.hid (refTakeNat r1 4 C r2 x1 z1 (by omega) hC hr2 hx1)
    have U1 := Lib.hid (u32_id hI4)
    have U2 := Lib.hid (u32_id hC4)
    have HR0 := Lib.hid hr0
    have HNN := Lib.hid hn
    have HLM := Lib.hid (rkN_lim s)
    unfold maxLen at hs
    clear hr0 hI hr1 hx0 hC hr2 hx1 hn z0 z1 hI4 hC4
    go_enter Tryz.func99, Tryz.ntmps99
    go_wp2_with fail
    change Calls _ _ _ (w.alloc (.cells #[.int .u8 0, .int .u32 0, .string ⟨#[]⟩, .int .u32 0] 37)) _
    generalize w.alloc (.cells #[.int .u8 0, .int .u32 0, .string ⟨#[]⟩, .int .u32 0] 37) = W at *
    rw [HR0.out]
    refine (C1.out _).mono ?_
    rintro e w1 ⟨rfl, hb⟩
    have R1 := Lib.hid (row_bel R0.out hb hsz)
    have B1 := Lib.hid (B0.out.trans (hb.mono B0.out.size))
    replace hsz := Nat.lt_of_lt_of_le hsz hb.size
    clear hb R0 B0 C1
    have G1 := Lib.hid (heap_alloc_new w1 (.cells #[.int .u8 1, .int .u8 2, .int .u8 3, .int .u8 4] 35))
    have GB := Lib.hid ((Below.refl w1.heap.size w1).alloc (Nat.le_refl _) (.cells #[.int .u8 1, .int .u8 2, .int .u8 3, .int .u8 4] 35))
    have gsz : w1.heap.size < (w1.alloc (.cells #[.int .u8 1, .int .u8 2, .int .u8 3, .int .u8 4] 35)).heap.size := by simp
    have A0 := Lib.hid (show AtK s w.heap.size w1.heap.size w (w1.alloc (.cells #[.int .u8 1, .int .u8 2, .int .u8 3, .int .u8 4] 35)) 0 from ⟨by omega, row_bel R1.out GB.out hsz, G1.out, by omega, gsz, B1.out.trans (GB.out.mono B1.out.size)⟩)
    have u1 := U1.out
    have HU1 := Lib.hid u1
    clear u1 G1 GB gsz R1 B1
    obtain ⟨g1, hg1⟩ : ∃ g, w1.heap.size = g := ⟨_, rfl⟩
    rw [hg1] at A0
    go_wp2_with fail
    clear hg1
    go_loopw [26] (fun v wr => ∃ i : Nat, i ≤ 4 ∧ v = .int .i64 i ∧ Hid (AtK s w.heap.size g1 w wr i)) (fun v _ => 4 - (intOf v).toNat)
    case atStart => exact ⟨0, by omega, by go_num, A0⟩
    case round =>
      obtain ⟨i, hi, rfl, HA⟩ := hrel
      by_cases hlt : i < 4
      · obtain ⟨k, hk⟩ : ∃ k, i + 1 = k := ⟨_, rfl⟩
        have kc : wr.cell? ⟨g1, i, none⟩ = some (.int .u8 (k : Int)) := (cell_of_row wr g1 i #[.int .u8 1, .int .u8 2, .int .u8 3, .int .u8 4] 35 (0, 0) (Hid.out HA).2.2.1).trans (by rw [kinds_cell i hlt, hk])
        have hk1 : 1 ≤ k := by omega
        have hk4 : k ≤ 4 := by omega
        have FL := Lib.hid (first_letter hpos k hk1 hk4)
        have HK := Lib.hid hk
        by_cases hm : kd s = k
        · have hle : ltB k = s.extract 0 1 := FL.out.2 hm
          have t1 : ((ltB k).toList != (s.extract 0 1).toList) = false := by rw [hle]; exact (eq_str _).1
          have t2 : ((ltB k).toList == (s.extract 0 1).toList) = true := by rw [hle]; exact (eq_str _).2
          have HLE := Lib.hid hle
          have HM := Lib.hid hm
          clear hle hm hk
          go_wp2_with fail
          go_quiet ((go_at_call 145; exact Calls.quiet_of_same ((refLetter_in k _).mono fun e w2 h => ⟨h.1, h.2.symm⟩)))
          have HA2 := Lib.hid ((Hid.out HA).go (below_q wr nq) i (Hid.out HA).1)
          generalize World.drewN wr nq = W5 at *
          have N1 := Lib.hid (new_row2 (old := #[.int .u8 0, .int .u32 0, .string ⟨#[]⟩, .int .u32 0]) (cs := #[.int .u8 k, .int .u32 I, .string r1, .int .u32 0]) (t := 37) (Hid.out HA2).2.1)
          cases q3 : decide (k = 3)
          · have K3 := eqz3 q3
            have n3 := of_decide_eq_false q3
            have HN1 := Lib.hid (show rkN s = ⟨k, I, r1, 0⟩ by rw [HNN.out, HM.out, if_neg n3, if_neg n3])
            have HL1 := Lib.hid (show (⟨k, I, r1, 0⟩ : Ky).lim by rw [← HN1.out]; exact HLM.out)
            have CR := Lib.hid (refRight_in ⟨k, I, r1, 0⟩ HL1.out HZ1.out)
            unfold vK at CR
            dsimp only at CR
            have HBB := Lib.hid (show rkB s ↔ okK ⟨k, I, r1, 0⟩ = true by rw [HB.out, HN1.out, HM.out]; exact ⟨fun h => h.2.2, fun h => ⟨by omega, fun h3 => absurd h3 n3, h⟩⟩)
            clear q3 n3
            have u1 := HU1.out
            cases hq : okK ⟨k, I, r1, 0⟩
            · have hno : ¬ rkB s := by rw [HBB.out, hq]; decide
              have HNO := Lib.hid hno
              rw [hq] at CR
              clear hq hno HBB
              go_wp2_with (refine wpList_store_row rfl 37 (.tmp 9) (.tmp 39) rfl W5.heap.size #[.int .u8 k, .int .u32 I, .string r1, .int .u32 0] rfl rfl 37 #[.int .u8 0, .int .u32 0, .string ⟨#[]⟩, .int .u32 0] (heap_alloc_new W5 _) (by kernel_rfl) rfl (row4 _ _ _ _) ?_; change wpList _ _ _ _ _ ((W5.alloc (.cells #[.int .u8 0, .int .u32 0, .string ⟨#[]⟩, .int .u32 0] 37)).setRow W5.heap.size #[.int .u8 k, .int .u32 I, .string r1, .int .u32 0]); generalize ((W5.alloc (.cells #[.int .u8 0, .int .u32 0, .string ⟨#[]⟩, .int .u32 0] 37)).setRow W5.heap.size #[.int .u8 k, .int .u32 I, .string r1, .int .u32 0]) = W3 at *; have c0 : W3.cell? ⟨W5.heap.size, 0, none⟩ = some (.int .u8 k) := (cell_of_row W3 W5.heap.size 0 #[.int .u8 k, .int .u32 I, .string r1, .int .u32 0] 37 (0, 0) N1.out.2.1).trans rfl; have f0 : W3.frozen? ⟨W5.heap.size, 0, none⟩ = false := frozen_of_row W3 W5.heap.size 0 #[.int .u8 k, .int .u32 I, .string r1, .int .u32 0] 37 N1.out.2.1; have c1 : W3.cell? ⟨W5.heap.size, 1, none⟩ = some (.int .u32 I) := (cell_of_row W3 W5.heap.size 1 #[.int .u8 k, .int .u32 I, .string r1, .int .u32 0] 37 (0, 0) N1.out.2.1).trans rfl; have f1 : W3.frozen? ⟨W5.heap.size, 1, none⟩ = false := frozen_of_row W3 W5.heap.size 1 #[.int .u8 k, .int .u32 I, .string r1, .int .u32 0] 37 N1.out.2.1; have c2 : W3.cell? ⟨W5.heap.size, 2, none⟩ = some (.string r1) := (cell_of_row W3 W5.heap.size 2 #[.int .u8 k, .int .u32 I, .string r1, .int .u32 0] 37 (0, 0) N1.out.2.1).trans rfl; have f2 : W3.frozen? ⟨W5.heap.size, 2, none⟩ = false := frozen_of_row W3 W5.heap.size 2 #[.int .u8 k, .int .u32 I, .string r1, .int .u32 0] 37 N1.out.2.1; have c3 : W3.cell? ⟨W5.heap.size, 3, none⟩ = some (.int .u32 0) := (cell_of_row W3 W5.heap.size 3 #[.int .u8 k, .int .u32 I, .string r1, .int .u32 0] 37 (0, 0) N1.out.2.1).trans rfl; have f3 : W3.frozen? ⟨W5.heap.size, 3, none⟩ = false := frozen_of_row W3 W5.heap.size 3 #[.int .u8 k, .int .u32 I, .string r1, .int .u32 0] 37 N1.out.2.1)
              refine (CR.out _).mono ?_
              rintro e w6 ⟨rfl, hb⟩
              have A6 := Lib.hid ((Hid.out HA2).go (N1.out.2.2.1.trans (hb.mono N1.out.2.2.1.size)) (i + 1) (.inr (.inr HNO.out)))
              clear hb c0 c1 c2 c3 f0 f1 f2 f3 N1
              go_wp2_with fail
              refine ⟨⟨i + 1, by omega, by go_num, A6⟩, ?_⟩
              clear u1
              simp [intOf]; omega
            · have HF := Lib.hid (deK_of (HBB.out.2 hq))
              rw [hq] at CR
              clear hq HBB
              go_wp2_with (refine wpList_store_row rfl 37 (.tmp 9) (.tmp 39) rfl W5.heap.size #[.int .u8 k, .int .u32 I, .string r1, .int .u32 0] rfl rfl 37 #[.int .u8 0, .int .u32 0, .string ⟨#[]⟩, .int .u32 0] (heap_alloc_new W5 _) (by kernel_rfl) rfl (row4 _ _ _ _) ?_; change wpList _ _ _ _ _ ((W5.alloc (.cells #[.int .u8 0, .int .u32 0, .string ⟨#[]⟩, .int .u32 0] 37)).setRow W5.heap.size #[.int .u8 k, .int .u32 I, .string r1, .int .u32 0]); generalize ((W5.alloc (.cells #[.int .u8 0, .int .u32 0, .string ⟨#[]⟩, .int .u32 0] 37)).setRow W5.heap.size #[.int .u8 k, .int .u32 I, .string r1, .int .u32 0]) = W3 at *; have c0 : W3.cell? ⟨W5.heap.size, 0, none⟩ = some (.int .u8 k) := (cell_of_row W3 W5.heap.size 0 #[.int .u8 k, .int .u32 I, .string r1, .int .u32 0] 37 (0, 0) N1.out.2.1).trans rfl; have f0 : W3.frozen? ⟨W5.heap.size, 0, none⟩ = false := frozen_of_row W3 W5.heap.size 0 #[.int .u8 k, .int .u32 I, .string r1, .int .u32 0] 37 N1.out.2.1; have c1 : W3.cell? ⟨W5.heap.size, 1, none⟩ = some (.int .u32 I) := (cell_of_row W3 W5.heap.size 1 #[.int .u8 k, .int .u32 I, .string r1, .int .u32 0] 37 (0, 0) N1.out.2.1).trans rfl; have f1 : W3.frozen? ⟨W5.heap.size, 1, none⟩ = false := frozen_of_row W3 W5.heap.size 1 #[.int .u8 k, .int .u32 I, .string r1, .int .u32 0] 37 N1.out.2.1; have c2 : W3.cell? ⟨W5.heap.size, 2, none⟩ = some (.string r1) := (cell_of_row W3 W5.heap.size 2 #[.int .u8 k, .int .u32 I, .string r1, .int .u32 0] 37 (0, 0) N1.out.2.1).trans rfl; have f2 : W3.frozen? ⟨W5.heap.size, 2, none⟩ = false := frozen_of_row W3 W5.heap.size 2 #[.int .u8 k, .int .u32 I, .string r1, .int .u32 0] 37 N1.out.2.1; have c3 : W3.cell? ⟨W5.heap.size, 3, none⟩ = some (.int .u32 0) := (cell_of_row W3 W5.heap.size 3 #[.int .u8 k, .int .u32 I, .string r1, .int .u32 0] 37 (0, 0) N1.out.2.1).trans rfl; have f3 : W3.frozen? ⟨W5.heap.size, 3, none⟩ = false := frozen_of_row W3 W5.heap.size 3 #[.int .u8 k, .int .u32 I, .string r1, .int .u32 0] 37 N1.out.2.1)
              refine (CR.out _).mono ?_
              rintro e w6 ⟨rfl, hb⟩
              have A6 := Lib.hid ((Hid.out HA2).go (N1.out.2.2.1.trans (hb.mono N1.out.2.2.1.size)) i (Hid.out HA2).1)
              have Rn := Lib.hid (row_bel N1.out.2.1 hb N1.out.2.2.2)
              clear hb c0 c1 c2 c3 f0 f1 f2 f3 N1
              go_wp2_with (first
                | (refine wpList_load_row rfl 37 (.tmp 9) rfl W5.heap.size rfl 37 #[.int .u8 k, .int .u32 I, .string r1, .int .u32 0] (0, 0) _ Rn.out Tryz.underlying37 rfl (by kernel_rfl) ?_)
                | (refine wpList_store_row rfl 37 (.tmp 2) (.tmp 61) rfl w.heap.size #[.int .u8 k, .int .u32 I, .string r1, .int .u32 0] rfl rfl 37 #[.int .u8 0, .int .u32 0, .string ⟨#[]⟩, .int .u32 0] A6.out.2.1 (by kernel_rfl) rfl (row4 _ _ _ _) ?_))
              refine bodyPost_ret (v := .tuple #[.agg #[.int .u8 k, .int .u32 I, .string r1, .int .u32 0], .int .i64 0]) (results_row2 rfl _ _ w.heap.size 37 #[.int .u8 k, .int .u32 I, .string r1, .int .u32 0] (0, 0) _ rfl (fin.out _ A6.out.2.1 _) Tryz.underlying37 rfl (by kernel_rfl) _ rfl) rfl ?_
              exact ⟨by rw [HF.out.1, HF.out.2, HN1.out]; rfl, below_setRow A6.out.2.2.2.2.2 (Nat.le_refl _) _⟩
          · have K3 := eqz3 q3
            have n3 := of_decide_eq_true q3
            have HN1 := Lib.hid (show rkN s = ⟨k, I, ByteArray.empty, C⟩ by rw [HNN.out, HM.out, if_pos n3, if_pos n3])
            have HL1 := Lib.hid (show (⟨k, I, ByteArray.empty, C⟩ : Ky).lim by rw [← HN1.out]; exact HLM.out)
            have CR := Lib.hid (refRight_in ⟨k, I, ByteArray.empty, C⟩ HL1.out (Nat.zero_le _))
            unfold vK at CR
            dsimp only at CR
            have HBB := Lib.hid (show rkB s ↔ (x1 = 0 ∧ r2 = ByteArray.empty) ∧ okK ⟨k, I, ByteArray.empty, C⟩ = true by rw [HB.out, HN1.out, HM.out]; exact ⟨fun h => ⟨h.2.1 n3, h.2.2⟩, fun h => ⟨by omega, fun _ => h.1, h.2⟩⟩)
            clear q3 n3
            have u1 := HU1.out
            by_cases hx : x1 = 0
            · have x1a : (x1 != 0) = false := by rw [hx]; rfl
              by_cases hy : r2.size = 0
              · obtain ⟨y1, y2⟩ := emp_of (decide_eq_true hy)
                have y3 := emp_yes hy
                have HBC := Lib.hid (show rkB s ↔ okK ⟨k, I, ByteArray.empty, C⟩ = true by rw [HBB.out]; exact ⟨fun h => h.2, fun h => ⟨⟨hx, size0 hy⟩, h⟩⟩)
                have HX0 := Lib.hid hx
                have hne : w.heap.size ≠ W5.heap.size := Nat.ne_of_lt (Hid.out HA2).2.2.2.1
                clear hx hy HBB
                go_wp2_with (refine wpList_store_row rfl 37 (.tmp 9) (.tmp 39) rfl W5.heap.size #[.int .u8 k, .int .u32 I, .string r1, .int .u32 0] rfl rfl 37 #[.int .u8 0, .int .u32 0, .string ⟨#[]⟩, .int .u32 0] (heap_alloc_new W5 _) (by kernel_rfl) rfl (row4 _ _ _ _) ?_; change wpList _ _ _ _ _ ((W5.alloc (.cells #[.int .u8 0, .int .u32 0, .string ⟨#[]⟩, .int .u32 0] 37)).setRow W5.heap.size #[.int .u8 k, .int .u32 I, .string r1, .int .u32 0]); generalize ((W5.alloc (.cells #[.int .u8 0, .int .u32 0, .string ⟨#[]⟩, .int .u32 0] 37)).setRow W5.heap.size #[.int .u8 k, .int .u32 I, .string r1, .int .u32 0]) = W3 at *; have c0 : W3.cell? ⟨W5.heap.size, 0, none⟩ = some (.int .u8 k) := (cell_of_row W3 W5.heap.size 0 #[.int .u8 k, .int .u32 I, .string r1, .int .u32 0] 37 (0, 0) N1.out.2.1).trans rfl; have f0 : W3.frozen? ⟨W5.heap.size, 0, none⟩ = false := frozen_of_row W3 W5.heap.size 0 #[.int .u8 k, .int .u32 I, .string r1, .int .u32 0] 37 N1.out.2.1; have c1 : W3.cell? ⟨W5.heap.size, 1, none⟩ = some (.int .u32 I) := (cell_of_row W3 W5.heap.size 1 #[.int .u8 k, .int .u32 I, .string r1, .int .u32 0] 37 (0, 0) N1.out.2.1).trans rfl; have f1 : W3.frozen? ⟨W5.heap.size, 1, none⟩ = false := frozen_of_row W3 W5.heap.size 1 #[.int .u8 k, .int .u32 I, .string r1, .int .u32 0] 37 N1.out.2.1; have c2 : W3.cell? ⟨W5.heap.size, 2, none⟩ = some (.string r1) := (cell_of_row W3 W5.heap.size 2 #[.int .u8 k, .int .u32 I, .string r1, .int .u32 0] 37 (0, 0) N1.out.2.1).trans rfl; have f2 : W3.frozen? ⟨W5.heap.size, 2, none⟩ = false := frozen_of_row W3 W5.heap.size 2 #[.int .u8 k, .int .u32 I, .string r1, .int .u32 0] 37 N1.out.2.1; have c3 : W3.cell? ⟨W5.heap.size, 3, none⟩ = some (.int .u32 0) := (cell_of_row W3 W5.heap.size 3 #[.int .u8 k, .int .u32 I, .string r1, .int .u32 0] 37 (0, 0) N1.out.2.1).trans rfl; have f3 : W3.frozen? ⟨W5.heap.size, 3, none⟩ = false := frozen_of_row W3 W5.heap.size 3 #[.int .u8 k, .int .u32 I, .string r1, .int .u32 0] 37 N1.out.2.1)
                refine (C2.out _).mono ?_
                rintro e w6 ⟨rfl, hb⟩
                rw [HX0.out]
                have A6 := Lib.hid ((Hid.out HA2).go (N1.out.2.2.1.trans (hb.mono N1.out.2.2.1.size)) i (Hid.out HA2).1)
                have Rn := Lib.hid (row_bel N1.out.2.1 hb N1.out.2.2.2)
                have hlt6 : W5.heap.size < w6.heap.size := Nat.lt_of_lt_of_le N1.out.2.2.2 hb.size
                clear hb c0 c1 c2 c3 f0 f1 f2 f3 N1
                have d0 : w6.cell? ⟨W5.heap.size, 0, none⟩ = some (.int .u8 k) := (cell_of_row w6 W5.heap.size 0 #[.int .u8 k, .int .u32 I, .string r1, .int .u32 0] 37 (0, 0) Rn.out).trans rfl
                have e0 : w6.frozen? ⟨W5.heap.size, 0, none⟩ = false := frozen_of_row w6 W5.heap.size 0 #[.int .u8 k, .int .u32 I, .string r1, .int .u32 0] 37 Rn.out
                have d1 : w6.cell? ⟨W5.heap.size, 1, none⟩ = some (.int .u32 I) := (cell_of_row w6 W5.heap.size 1 #[.int .u8 k, .int .u32 I, .string r1, .int .u32 0] 37 (0, 0) Rn.out).trans rfl
                have e1 : w6.frozen? ⟨W5.heap.size, 1, none⟩ = false := frozen_of_row w6 W5.heap.size 1 #[.int .u8 k, .int .u32 I, .string r1, .int .u32 0] 37 Rn.out
                have d2 : w6.cell? ⟨W5.heap.size, 2, none⟩ = some (.string r1) := (cell_of_row w6 W5.heap.size 2 #[.int .u8 k, .int .u32 I, .string r1, .int .u32 0] 37 (0, 0) Rn.out).trans rfl
                have e2 : w6.frozen? ⟨W5.heap.size, 2, none⟩ = false := frozen_of_row w6 W5.heap.size 2 #[.int .u8 k, .int .u32 I, .string r1, .int .u32 0] 37 Rn.out
                have d3 : w6.cell? ⟨W5.heap.size, 3, none⟩ = some (.int .u32 0) := (cell_of_row w6 W5.heap.size 3 #[.int .u8 k, .int .u32 I, .string r1, .int .u32 0] 37 (0, 0) Rn.out).trans rfl
                have e3 : w6.frozen? ⟨W5.heap.size, 3, none⟩ = false := frozen_of_row w6 W5.heap.size 3 #[.int .u8 k, .int .u32 I, .string r1, .int .u32 0] 37 Rn.out
                have u2 := U2.out
                have B6 := Lib.hid (((Below.refl W5.heap.size w6).setCell (p := ⟨W5.heap.size, 2, none⟩) (Nat.le_refl _) (.string ⟨#[]⟩)).setCell (p := ⟨W5.heap.size, 3, none⟩) (Nat.le_refl _) (.int .u32 C))
                have A7 := Lib.hid (show AtK s w.heap.size g1 w ((w6.setCell ⟨W5.heap.size, 2, none⟩ (.string ⟨#[]⟩)).setCell ⟨W5.heap.size, 3, none⟩ (.int .u32 C)) i from ⟨A6.out.1, (B6.out.block _ (Hid.out HA2).2.2.2.1).trans A6.out.2.1, (B6.out.block _ (Hid.out HA2).2.2.2.2.1).trans A6.out.2.2.1, Nat.lt_of_lt_of_le A6.out.2.2.2.1 (by simp), Nat.lt_of_lt_of_le A6.out.2.2.2.2.1 (by simp), (A6.out.2.2.2.2.2.setCell (Nat.le_of_lt (Hid.out HA2).2.2.2.1) _).setCell (Nat.le_of_lt (Hid.out HA2).2.2.2.1) _⟩)
                have hs7 : W5.heap.size < ((w6.setCell ⟨W5.heap.size, 2, none⟩ (.string ⟨#[]⟩)).setCell ⟨W5.heap.size, 3, none⟩ (.int .u32 C)).heap.size := by simpa using hlt6
                cases hq : okK ⟨k, I, ByteArray.empty, C⟩
                · have hno : ¬ rkB s := by rw [HBC.out, hq]; decide
                  have HNO := Lib.hid hno
                  rw [hq] at CR
                  clear hq hno HBC
                  go_wp2_with fail
                  refine (CR.out _).mono ?_
                  rintro e w8 ⟨rfl, hb⟩
                  have A8 := Lib.hid (A7.out.go hb (i + 1) (.inr (.inr HNO.out)))
                  clear hb d0 d1 d2 d3 e0 e1 e2 e3 A6 A7 B6 hs7
                  go_wp2_with fail
                  refine ⟨⟨i + 1, by omega, by go_num, A8⟩, ?_⟩
                  clear u1 u2
                  simp [intOf]; omega
                · have HF := Lib.hid (deK_of (HBC.out.2 hq))
                  rw [hq] at CR
                  clear hq HBC
                  have q0 : ((w6.setCell ⟨W5.heap.size, 2, none⟩ (.string ⟨#[]⟩)).setCell ⟨W5.heap.size, 3, none⟩ (.int .u32 C)).cell? ⟨W5.heap.size, 0, none⟩ = some (.int .u8 k) := by rw [World.cell?_setCell_other _ _ _ _ (by simp), World.cell?_setCell_other _ _ _ _ (by simp)]; exact d0
                  have q1 : ((w6.setCell ⟨W5.heap.size, 2, none⟩ (.string ⟨#[]⟩)).setCell ⟨W5.heap.size, 3, none⟩ (.int .u32 C)).cell? ⟨W5.heap.size, 1, none⟩ = some (.int .u32 I) := by rw [World.cell?_setCell_other _ _ _ _ (by simp), World.cell?_setCell_other _ _ _ _ (by simp)]; exact d1
                  have q2 : ((w6.setCell ⟨W5.heap.size, 2, none⟩ (.string ⟨#[]⟩)).setCell ⟨W5.heap.size, 3, none⟩ (.int .u32 C)).cell? ⟨W5.heap.size, 2, none⟩ = some (.string ⟨#[]⟩) := by rw [World.cell?_setCell_other _ _ _ _ (by simp)]; exact World.cell?_setCell_same _ _ _ d2
                  have q3 : ((w6.setCell ⟨W5.heap.size, 2, none⟩ (.string ⟨#[]⟩)).setCell ⟨W5.heap.size, 3, none⟩ (.int .u32 C)).cell? ⟨W5.heap.size, 3, none⟩ = some (.int .u32 C) := World.cell?_setCell_same _ _ _ (by rw [World.cell?_setCell_other _ _ _ _ (by simp)]; exact d3)
                  go_wp2_with fail
                  refine (CR.out _).mono ?_
                  rintro e w8 ⟨rfl, hb⟩
                  have A8 := Lib.hid (A7.out.go hb i A7.out.1)
                  have p0 := (Below.cell hb (p := ⟨W5.heap.size, 0, none⟩) hs7).trans q0
                  have p1 := (Below.cell hb (p := ⟨W5.heap.size, 1, none⟩) hs7).trans q1
                  have p2 := (Below.cell hb (p := ⟨W5.heap.size, 2, none⟩) hs7).trans q2
                  have p3 := (Below.cell hb (p := ⟨W5.heap.size, 3, none⟩) hs7).trans q3
                  clear hb d0 d1 d2 d3 e0 e1 e2 e3 A6 A7 B6 hs7 q0 q1 q2 q3
                  go_wp2_with (refine wpList_store_row rfl 37 (.tmp 2) (.tmp 61) rfl w.heap.size #[.int .u8 k, .int .u32 I, .string ⟨#[]⟩, .int .u32 C] rfl rfl 37 #[.int .u8 0, .int .u32 0, .string ⟨#[]⟩, .int .u32 0] A8.out.2.1 (by kernel_rfl) rfl (row4 _ _ _ _) ?_)
                  refine bodyPost_ret (v := .tuple #[.agg #[.int .u8 k, .int .u32 I, .string ⟨#[]⟩, .int .u32 C], .int .i64 0]) (results_row2 rfl _ _ w.heap.size 37 #[.int .u8 k, .int .u32 I, .string ⟨#[]⟩, .int .u32 C] (0, 0) _ rfl (fin.out _ A8.out.2.1 _) Tryz.underlying37 rfl (by kernel_rfl) _ rfl) rfl ?_
                  exact ⟨by rw [HF.out.1, HF.out.2, HN1.out]; rfl, below_setRow A8.out.2.2.2.2.2 (Nat.le_refl _) _⟩
              · obtain ⟨y1, y2⟩ := emp_of (decide_eq_false hy)
                have y3 := emp_no hy
                have HF := Lib.hid (deK_no (s := s) (by rw [HBB.out]; rintro ⟨⟨_, h⟩, _⟩; rw [h] at hy; exact hy rfl))
                have HX0 := Lib.hid hx
                clear hx hy HBB
                go_wp2_with (refine wpList_store_row rfl 37 (.tmp 9) (.tmp 39) rfl W5.heap.size #[.int .u8 k, .int .u32 I, .string r1, .int .u32 0] rfl rfl 37 #[.int .u8 0, .int .u32 0, .string ⟨#[]⟩, .int .u32 0] (heap_alloc_new W5 _) (by kernel_rfl) rfl (row4 _ _ _ _) ?_; change wpList _ _ _ _ _ ((W5.alloc (.cells #[.int .u8 0, .int .u32 0, .string ⟨#[]⟩, .int .u32 0] 37)).setRow W5.heap.size #[.int .u8 k, .int .u32 I, .string r1, .int .u32 0]); generalize ((W5.alloc (.cells #[.int .u8 0, .int .u32 0, .string ⟨#[]⟩, .int .u32 0] 37)).setRow W5.heap.size #[.int .u8 k, .int .u32 I, .string r1, .int .u32 0]) = W3 at *; have c0 : W3.cell? ⟨W5.heap.size, 0, none⟩ = some (.int .u8 k) := (cell_of_row W3 W5.heap.size 0 #[.int .u8 k, .int .u32 I, .string r1, .int .u32 0] 37 (0, 0) N1.out.2.1).trans rfl; have f0 : W3.frozen? ⟨W5.heap.size, 0, none⟩ = false := frozen_of_row W3 W5.heap.size 0 #[.int .u8 k, .int .u32 I, .string r1, .int .u32 0] 37 N1.out.2.1; have c1 : W3.cell? ⟨W5.heap.size, 1, none⟩ = some (.int .u32 I) := (cell_of_row W3 W5.heap.size 1 #[.int .u8 k, .int .u32 I, .string r1, .int .u32 0] 37 (0, 0) N1.out.2.1).trans rfl; have f1 : W3.frozen? ⟨W5.heap.size, 1, none⟩ = false := frozen_of_row W3 W5.heap.size 1 #[.int .u8 k, .int .u32 I, .string r1, .int .u32 0] 37 N1.out.2.1; have c2 : W3.cell? ⟨W5.heap.size, 2, none⟩ = some (.string r1) := (cell_of_row W3 W5.heap.size 2 #[.int .u8 k, .int .u32 I, .string r1, .int .u32 0] 37 (0, 0) N1.out.2.1).trans rfl; have f2 : W3.frozen? ⟨W5.heap.size, 2, none⟩ = false := frozen_of_row W3 W5.heap.size 2 #[.int .u8 k, .int .u32 I, .string r1, .int .u32 0] 37 N1.out.2.1; have c3 : W3.cell? ⟨W5.heap.size, 3, none⟩ = some (.int .u32 0) := (cell_of_row W3 W5.heap.size 3 #[.int .u8 k, .int .u32 I, .string r1, .int .u32 0] 37 (0, 0) N1.out.2.1).trans rfl; have f3 : W3.frozen? ⟨W5.heap.size, 3, none⟩ = false := frozen_of_row W3 W5.heap.size 3 #[.int .u8 k, .int .u32 I, .string r1, .int .u32 0] 37 N1.out.2.1)
                refine (C2.out _).mono ?_
                rintro e w6 ⟨rfl, hb⟩
                rw [HX0.out]
                have A6 := Lib.hid ((Hid.out HA2).go (N1.out.2.2.1.trans (hb.mono N1.out.2.2.1.size)) i (Hid.out HA2).1)
                clear hb c0 c1 c2 c3 f0 f1 f2 f3 N1
                go_wp2_with (refine wpList_store_row rfl 37 (.tmp 2) (.tmp 54) rfl w.heap.size #[.int .u8 0, .int .u32 0, .string ⟨#[]⟩, .int .u32 0] rfl rfl 37 #[.int .u8 0, .int .u32 0, .string ⟨#[]⟩, .int .u32 0] A6.out.2.1 (by kernel_rfl) rfl (row4 _ _ _ _) ?_)
                refine bodyPost_ret (v := .tuple #[.agg #[.int .u8 0, .int .u32 0, .string ⟨#[]⟩, .int .u32 0], .int .i64 4]) (results_row2 rfl _ _ w.heap.size 37 #[.int .u8 0, .int .u32 0, .string ⟨#[]⟩, .int .u32 0] (0, 0) _ rfl (fin.out _ A6.out.2.1 _) Tryz.underlying37 rfl (by kernel_rfl) _ rfl) rfl ?_
                exact ⟨by rw [HF.out.1, HF.out.2]; rfl, below_setRow A6.out.2.2.2.2.2 (Nat.le_refl _) _⟩
            · have x1b : (x1 == 0) = false := by rw [beq_eq_false_iff_ne]; exact hx
              have x1a : (x1 != 0) = true := by rw [bne, x1b]; rfl
              have HF := Lib.hid (deK_no (s := s) (by rw [HBB.out]; rintro ⟨⟨h, _⟩, _⟩; exact hx h))
              clear hx HBB
              go_wp2_with (refine wpList_store_row rfl 37 (.tmp 9) (.tmp 39) rfl W5.heap.size #[.int .u8 k, .int .u32 I, .string r1, .int .u32 0] rfl rfl 37 #[.int .u8 0, .int .u32 0, .string ⟨#[]⟩, .int .u32 0] (heap_alloc_new W5 _) (by kernel_rfl) rfl (row4 _ _ _ _) ?_; change wpList _ _ _ _ _ ((W5.alloc (.cells #[.int .u8 0, .int .u32 0, .string ⟨#[]⟩, .int .u32 0] 37)).setRow W5.heap.size #[.int .u8 k, .int .u32 I, .string r1, .int .u32 0]); generalize ((W5.alloc (.cells #[.int .u8 0, .int .u32 0, .string ⟨#[]⟩, .int .u32 0] 37)).setRow W5.heap.size #[.int .u8 k, .int .u32 I, .string r1, .int .u32 0]) = W3 at *; have c0 : W3.cell? ⟨W5.heap.size, 0, none⟩ = some (.int .u8 k) := (cell_of_row W3 W5.heap.size 0 #[.int .u8 k, .int .u32 I, .string r1, .int .u32 0] 37 (0, 0) N1.out.2.1).trans rfl; have f0 : W3.frozen? ⟨W5.heap.size, 0, none⟩ = false := frozen_of_row W3 W5.heap.size 0 #[.int .u8 k, .int .u32 I, .string r1, .int .u32 0] 37 N1.out.2.1; have c1 : W3.cell? ⟨W5.heap.size, 1, none⟩ = some (.int .u32 I) := (cell_of_row W3 W5.heap.size 1 #[.int .u8 k, .int .u32 I, .string r1, .int .u32 0] 37 (0, 0) N1.out.2.1).trans rfl; have f1 : W3.frozen? ⟨W5.heap.size, 1, none⟩ = false := frozen_of_row W3 W5.heap.size 1 #[.int .u8 k, .int .u32 I, .string r1, .int .u32 0] 37 N1.out.2.1; have c2 : W3.cell? ⟨W5.heap.size, 2, none⟩ = some (.string r1) := (cell_of_row W3 W5.heap.size 2 #[.int .u8 k, .int .u32 I, .string r1, .int .u32 0] 37 (0, 0) N1.out.2.1).trans rfl; have f2 : W3.frozen? ⟨W5.heap.size, 2, none⟩ = false := frozen_of_row W3 W5.heap.size 2 #[.int .u8 k, .int .u32 I, .string r1, .int .u32 0] 37 N1.out.2.1; have c3 : W3.cell? ⟨W5.heap.size, 3, none⟩ = some (.int .u32 0) := (cell_of_row W3 W5.heap.size 3 #[.int .u8 k, .int .u32 I, .string r1, .int .u32 0] 37 (0, 0) N1.out.2.1).trans rfl; have f3 : W3.frozen? ⟨W5.heap.size, 3, none⟩ = false := frozen_of_row W3 W5.heap.size 3 #[.int .u8 k, .int .u32 I, .string r1, .int .u32 0] 37 N1.out.2.1)
              refine (C2.out _).mono ?_
              rintro e w6 ⟨rfl, hb⟩
              have A6 := Lib.hid ((Hid.out HA2).go (N1.out.2.2.1.trans (hb.mono N1.out.2.2.1.size)) i (Hid.out HA2).1)
              clear hb c0 c1 c2 c3 f0 f1 f2 f3 N1
              go_wp2_with (refine wpList_store_row rfl 37 (.tmp 2) (.tmp 54) rfl w.heap.size #[.int .u8 0, .int .u32 0, .string ⟨#[]⟩, .int .u32 0] rfl rfl 37 #[.int .u8 0, .int .u32 0, .string ⟨#[]⟩, .int .u32 0] A6.out.2.1 (by kernel_rfl) rfl (row4 _ _ _ _) ?_)
              refine bodyPost_ret (v := .tuple #[.agg #[.int .u8 0, .int .u32 0, .string ⟨#[]⟩, .int .u32 0], .int .i64 4]) (results_row2 rfl _ _ w.heap.size 37 #[.int .u8 0, .int .u32 0, .string ⟨#[]⟩, .int .u32 0] (0, 0) _ rfl (fin.out _ A6.out.2.1 _) Tryz.underlying37 rfl (by kernel_rfl) _ rfl) rfl ?_
              exact ⟨by rw [HF.out.1, HF.out.2]; rfl, below_setRow A6.out.2.2.2.2.2 (Nat.le_refl _) _⟩
        · have hle : ltB k ≠ s.extract 0 1 := fun h => hm (FL.out.1 h)
          obtain ⟨t1, t2⟩ := ne_str hle
          have HA3 := Lib.hid (show kd s = 0 ∨ (i + 1) + 1 ≤ kd s ∨ ¬ rkB s by rcases (Hid.out HA).1 with h | h | h; exact .inl h; exact .inr (.inl (by omega)); exact .inr (.inr h))
          clear hle hm hk
          go_wp2_with fail
          go_quiet ((go_at_call 145; exact Calls.quiet_of_same ((refLetter_in k _).mono fun e w2 h => ⟨h.1, h.2.symm⟩)))
          have A6 := Lib.hid ((Hid.out HA).go (below_q wr nq) (i + 1) HA3.out)
          go_wp2_with fail
          refine ⟨⟨i + 1, by omega, by go_num, A6⟩, ?_⟩
          simp [intOf]; omega
      · have HF := Lib.hid (deK_no (s := s) (by
          rcases (Hid.out HA).1 with h | h | h
          · rw [HB.out]; exact fun h2 => h2.1 h
          · have := kd_le s; omega
          · exact h))
        go_wp2_with (refine wpList_store_row rfl 37 (.tmp 2) (.tmp 63) rfl w.heap.size #[.int .u8 0, .int .u32 0, .string ⟨#[]⟩, .int .u32 0] rfl rfl 37 #[.int .u8 0, .int .u32 0, .string ⟨#[]⟩, .int .u32 0] (Hid.out HA).2.1 (by kernel_rfl) rfl (row4 _ _ _ _) ?_)
        refine bodyPost_ret (v := .tuple #[.agg #[.int .u8 0, .int .u32 0, .string ⟨#[]⟩, .int .u32 0], .int .i64 4]) (results_row2 rfl _ _ w.heap.size 37 #[.int .u8 0, .int .u32 0, .string ⟨#[]⟩, .int .u32 0] (0, 0) _ rfl (fin.out _ (Hid.out HA).2.1 _) Tryz.underlying37 rfl (by kernel_rfl) _ rfl) rfl ?_
        exact ⟨by rw [HF.out.1, HF.out.2]; rfl, below_setRow (Hid.out HA).2.2.2.2.2 (Nat.le_refl _) _⟩
  · have d5 : decide ((s.size : Int) < 5) = true := by simp; omega
    have HN := Lib.hid (deK_no (s := s) (fun h => h5 h.1))
    go_enter Tryz.func99, Tryz.ntmps99
    go_wp2_with (refine wpList_store_row rfl 37 (.tmp 2) (.tmp 16) rfl w.heap.size #[.int .u8 0, .int .u32 0, .string ⟨#[]⟩, .int .u32 0] rfl rfl 37 #[.int .u8 0, .int .u32 0, .string ⟨#[]⟩, .int .u32 0] R0.out (by kernel_rfl) rfl (row4 _ _ _ _) ?_)
    refine bodyPost_ret (v := .tuple #[.agg #[.int .u8 0, .int .u32 0, .string ⟨#[]⟩, .int .u32 0], .int .i64 4]) (results_row2 rfl _ _ w.heap.size 37 #[.int .u8 0, .int .u32 0, .string ⟨#[]⟩, .int .u32 0] (0, 0) _ rfl (fin.out _ R0.out _) Tryz.underlying37 rfl (by kernel_rfl) _ rfl) rfl ?_
    exact ⟨by rw [HN.out.1, HN.out.2]; rfl, below_setRow B0.out (Nat.le_refl _) _⟩
end Go.Proofs.YtjkmfonngbendaaGreatDoor.Ino
/- '==' of inodes and of keys; the laws' own question of package inode. -/
namespace Go.Proofs.YtjkmfonngbendaaGreatDoor.Ino
set_option linter.unusedVariables false
set_option linter.unusedSimpArgs false
open Go.ChangeShapes Go.WideShapes Go.ChangeAt Go.RowKit
open BigFrame
open Rg
open Pk (be num be_length num_be num_lt bs bs_size nB nE tN tR tE xB_size)
open Ph (has tl tl_len nb)
theorem plainS : Tryz.prog.plainKey 9 = true := by kernel_rfl
theorem plain32 : Tryz.prog.plainKey 22 = true := by kernel_rfl
theorem plain16 : Tryz.prog.plainKey 31 = true := by kernel_rfl
theorem plainFK : Tryz.prog.plainKey 30 = true := by kernel_rfl
theorem plainKK : Tryz.prog.plainKey 35 = true := by kernel_rfl
theorem int_same (a b : Nat) : ((a : Int) == (b : Int)) = decide (a = b) := by rw [Bool.eq_iff_iff, beq_iff_eq, decide_eq_true_iff]; omega
theorem bytes_eq {a b : ByteArray} : a.data.toList = b.data.toList ↔ a = b := ⟨fun h => ByteArray.ext (Array.toList_inj.1 h), fun h => by rw [h]⟩
theorem str_same (a b : ByteArray) : (a.toList == b.toList) = decide (a = b) := by
  rw [ByteArray.toList_eq, ByteArray.toList_eq, Bool.eq_iff_iff, beq_iff_eq, decide_eq_true_iff]; exact bytes_eq
theorem eqF_cons {P : Program} {d off : Nat} {xs ys : Array Value} {f : Field} {fs : List Field} {w : World} {t : TypeId} {nm : String} {a b : Value} {q : Bool} (hn : (f.name, f.type, f.offset) = (nm, t, off)) (hne : nm ≠ "_") (ha : (part t xs off).run P w = .ok a w) (hb : (part t ys off).run P w = .ok b w) (hq : (Op.equalIn d t a b).run P w = .ok q w) :
    (Op.eqFields d xs ys (f :: fs)).run P w = if q then (Op.eqFields d xs ys fs).run P w else .ok false w := by
  simp only [Prod.mk.injEq] at hn
  obtain ⟨rfl, rfl, rfl⟩ := hn
  simp only [Op.eqFields, if_pos hne, Sem.run_bind, ha, hb, hq, Result.andThen_ok]
  cases q <;> simp
theorem eqF_nil {P : Program} {d : Nat} {xs ys : Array Value} {w : World} : (Op.eqFields d xs ys []).run P w = .ok true w := by simp [Op.eqFields]
theorem if_ok (q r : Bool) (w : World) (x : Result Bool) (h : x = .ok r w) : (if q then x else .ok false w) = .ok (q && r) w := by cases q <;> simp [h]
theorem inFields : (Tryz.prog.fieldsOf 33).toList.map (fun f => (f.name, f.type, f.offset)) = [("Kind", 30, 0), ("Mode", 31, 1), ("Links", 22, 2), ("Size", 22, 3), ("Target", 9, 4)] := by kernel_rfl
theorem kyFields : (Tryz.prog.fieldsOf 37).toList.map (fun f => (f.name, f.type, f.offset)) = [("Kind", 35, 0), ("Ino", 22, 1), ("Name", 9, 2), ("Chunk", 22, 3)] := by kernel_rfl
def eqI (x y : In) : Bool := decide (x.K = y.K) && (decide (x.M = y.M) && (decide (x.L = y.L) && (decide (x.S = y.S) && decide (x.T = y.T))))
def eqK (x y : Ky) : Bool := decide (x.K = y.K) && (decide (x.I = y.I) && (decide (x.N = y.N) && decide (x.C = y.C)))
theorem eqI_iff (a b : In) : eqI a b = true ↔ a = b := by
  obtain ⟨a1, a2, a3, a4, a5⟩ := a; obtain ⟨b1, b2, b3, b4, b5⟩ := b
  simp [eqI]
theorem eqK_iff (a b : Ky) : eqK a b = true ↔ a = b := by
  obtain ⟨a1, a2, a3, a4⟩ := a; obtain ⟨b1, b2, b3, b4⟩ := b
  simp [eqK]
set_option maxRecDepth 100000 in
theorem eq_inode (x y : In) (w : World) : (Op.equalIn 10000 33 (vI x) (vI y)).run Tryz.prog w = .ok (eqI x y) w := by
  unfold vI
  rw [run_equalIn_struct (P := Tryz.prog) w 9999 33 _ _ (by kernel_rfl) (by kernel_rfl)]
  have hf := inFields
  generalize (Tryz.prog.fieldsOf 33).toList = fs at *
  have hlf : fs.length = 5 := by have := congrArg List.length hf; simpa using this
  match fs, hlf, hf with
  | [f0, f1, f2, f3, f4], _, hf =>
    simp only [List.map_cons, List.map_nil, List.cons.injEq, and_true] at hf
    obtain ⟨h0, h1, h2, h3, h4⟩ := hf
    rw [eqF_cons (q := decide (x.K = y.K)) h0 (by decide) (run_part_plain (P := Tryz.prog) w plainFK (v := .int .u8 (x.K : Int)) rfl) (run_part_plain (P := Tryz.prog) w plainFK (v := .int .u8 (y.K : Int)) rfl) (by rw [run_equalIn_int (P := Tryz.prog) w 9998 30 .u8 .u8 (x.K : Int) (y.K : Int) Tryz.underlying30, int_same])]
    refine if_ok _ _ _ _ ?_
    rw [eqF_cons (q := decide (x.M = y.M)) h1 (by decide) (run_part_plain (P := Tryz.prog) w plain16 (v := .int .u16 (x.M : Int)) rfl) (run_part_plain (P := Tryz.prog) w plain16 (v := .int .u16 (y.M : Int)) rfl) (by rw [run_equalIn_int (P := Tryz.prog) w 9998 31 .u16 .u16 (x.M : Int) (y.M : Int) Tryz.underlying31, int_same])]
    refine if_ok _ _ _ _ ?_
    rw [eqF_cons (q := decide (x.L = y.L)) h2 (by decide) (run_part_plain (P := Tryz.prog) w plain32 (v := .int .u32 (x.L : Int)) rfl) (run_part_plain (P := Tryz.prog) w plain32 (v := .int .u32 (y.L : Int)) rfl) (by rw [run_equalIn_int (P := Tryz.prog) w 9998 22 .u32 .u32 (x.L : Int) (y.L : Int) Tryz.underlying22, int_same])]
    refine if_ok _ _ _ _ ?_
    rw [eqF_cons (q := decide (x.S = y.S)) h3 (by decide) (run_part_plain (P := Tryz.prog) w plain32 (v := .int .u32 (x.S : Int)) rfl) (run_part_plain (P := Tryz.prog) w plain32 (v := .int .u32 (y.S : Int)) rfl) (by rw [run_equalIn_int (P := Tryz.prog) w 9998 22 .u32 .u32 (x.S : Int) (y.S : Int) Tryz.underlying22, int_same])]
    refine if_ok _ _ _ _ ?_
    rw [eqF_cons (q := decide (x.T = y.T)) h4 (by decide) (run_part_plain (P := Tryz.prog) w plainS (v := .string x.T) rfl) (run_part_plain (P := Tryz.prog) w plainS (v := .string y.T) rfl) (by rw [run_equalIn_string (P := Tryz.prog) w 9998 9 x.T y.T Tryz.underlying9, str_same]), eqF_nil]
    cases decide (x.T = y.T) <;> rfl
set_option maxRecDepth 100000 in
theorem eq_key (x y : Ky) (w : World) : (Op.equalIn 10000 37 (vK x) (vK y)).run Tryz.prog w = .ok (eqK x y) w := by
  unfold vK
  rw [run_equalIn_struct (P := Tryz.prog) w 9999 37 _ _ (by kernel_rfl) (by kernel_rfl)]
  have hf := kyFields
  generalize (Tryz.prog.fieldsOf 37).toList = fs at *
  have hlf : fs.length = 4 := by have := congrArg List.length hf; simpa using this
  match fs, hlf, hf with
  | [f0, f1, f2, f3], _, hf =>
    simp only [List.map_cons, List.map_nil, List.cons.injEq, and_true] at hf
    obtain ⟨h0, h1, h2, h3⟩ := hf
    rw [eqF_cons (q := decide (x.K = y.K)) h0 (by decide) (run_part_plain (P := Tryz.prog) w plainKK (v := .int .u8 (x.K : Int)) rfl) (run_part_plain (P := Tryz.prog) w plainKK (v := .int .u8 (y.K : Int)) rfl) (by rw [run_equalIn_int (P := Tryz.prog) w 9998 35 .u8 .u8 (x.K : Int) (y.K : Int) Tryz.underlying35, int_same])]
    refine if_ok _ _ _ _ ?_
    rw [eqF_cons (q := decide (x.I = y.I)) h1 (by decide) (run_part_plain (P := Tryz.prog) w plain32 (v := .int .u32 (x.I : Int)) rfl) (run_part_plain (P := Tryz.prog) w plain32 (v := .int .u32 (y.I : Int)) rfl) (by rw [run_equalIn_int (P := Tryz.prog) w 9998 22 .u32 .u32 (x.I : Int) (y.I : Int) Tryz.underlying22, int_same])]
    refine if_ok _ _ _ _ ?_
    rw [eqF_cons (q := decide (x.N = y.N)) h2 (by decide) (run_part_plain (P := Tryz.prog) w plainS (v := .string x.N) rfl) (run_part_plain (P := Tryz.prog) w plainS (v := .string y.N) rfl) (by rw [run_equalIn_string (P := Tryz.prog) w 9998 9 x.N y.N Tryz.underlying9, str_same])]
    refine if_ok _ _ _ _ ?_
    rw [eqF_cons (q := decide (x.C = y.C)) h3 (by decide) (run_part_plain (P := Tryz.prog) w plain32 (v := .int .u32 (x.C : Int)) rfl) (run_part_plain (P := Tryz.prog) w plain32 (v := .int .u32 (y.C : Int)) rfl) (by rw [run_equalIn_int (P := Tryz.prog) w 9998 22 .u32 .u32 (x.C : Int) (y.C : Int) Tryz.underlying22, int_same]), eqF_nil]
    cases decide (x.C = y.C) <;> rfl
theorem guardI : Tryz.prog.eqGuardType Tryz.prog.depth 33 = false := by kernel_rfl
theorem guardK : Tryz.prog.eqGuardType Tryz.prog.depth 37 = false := by kernel_rfl
/-- a whole struct's load, its row known -/
theorem row_run {P : Program} {ev : Operand → Value} {o : Oper} {w : World} (ty : TypeId) {x : Operand} (ho : o.op = .load ty x) (b : Nat) (hx : ev x = .pointer (some ⟨b, 0, none⟩)) (cs : Array Value) (t : TypeId) (fr : Nat × Nat) (d : TypeDesc) (hg : w.heap[b]? = some (.cells cs t fr))
    (hu : P.underlying ty = some d) (hd : (match d with | .struct _ | .array _ _ => true | _ => false) = true) (hi : (P.info? ty).map (·.size) = some cs.size) : (execOp ev o).run P w = .ok (.value (.agg cs)) w := by
  unfold execOp
  simp only [ho, hx, Instr.loadAt, Instr.sureAddr, Sem.run_bind, Sem.run_pure, Result.andThen_ok, run_loadVar_row w b t ty cs fr d hg hu hd hi]
end Go.Proofs.YtjkmfonngbendaaGreatDoor.Ino
/- Contracts of package dirs' takeInode, takeEntry, take. -/
namespace Go.Proofs.YtjkmfonngbendaaGreatDoor.Di
set_option linter.unusedVariables false
set_option linter.unusedSimpArgs false
set_option maxRecDepth 100000
open Go.ChangeShapes Go.WideShapes Go.ChangeAt Go.RowKit
open BigFrame
open Ino
open Pk (tN tR tE)
variable {w w' : World} {g bi be bn ba N : Nat} {it o1 o2 o3 rv pv m1 m2 m3 m4 : Value} {s s' : Vo}
def TkPost (bi be bn ba N : Nat) (s' : Vo) (b : Bool) (w : World) (e : Ending) (w' : World) : Prop := e = .returned (.bool b) ∧ Ms w' bi be bn ba N s' ∧ Off (XM bi be bn ba) w w'
theorem Ms.mono (h : Ms w bi be bn ba N s) {M : Nat} (hM : N ≤ M) : Ms w bi be bn ba M s := by
  obtain ⟨h1, h2, ⟨F, h3, h4⟩, ⟨G, h5, h6⟩, h7⟩ := h
  exact ⟨h1.mono hM, h2.mono hM, ⟨F, h3.mono hM, h4⟩, ⟨G, h5.mono hM, h6⟩, h7⟩
theorem Ms.upI (h : Ms w bi be bn ba N s) (o : g < bi ∧ bi < be ∧ be < bn ∧ bn < ba) (hi : mI.At w' bi (N + 1) s'.ino) (hg : w.grownBy w' (some bi)) (he : s'.ent = s.ent) (hn : s'.nmd = s.nmd) (ha : s'.abv = s.abv) (hok : VoOk s') : Ms w' bi be bn ba (N + 1) s' := by
  have k : ∀ j, j < w.heap.size → j ≠ bi → w'.heap[j]? = w.heap[j]? := fun j hj hne => hg.block j hj fun e => hne (Option.some.inj e)
  have hl := h.lt
  obtain ⟨h1, h2, ⟨F, h3, h4⟩, ⟨G, h5, h6⟩, h7⟩ := h
  exact ⟨hi, by rw [he]; exact (h2.keep (k _ hl.2.1 (by omega))).mono (Nat.le_succ _), ⟨F, (h3.keep (k _ hl.2.2.1 (by omega))).mono (Nat.le_succ _), by rw [hn]; exact h4⟩, ⟨G, (h5.keep (k _ hl.2.2.2 (by omega))).mono (Nat.le_succ _), by rw [ha]; exact h6⟩, hok⟩
theorem Ms.upE (h : Ms w bi be bn ba N s) (o : g < bi ∧ bi < be ∧ be < bn ∧ bn < ba) (hi : mE.At w' be (N + 1) s'.ent) (hg : w.grownBy w' (some be)) (he : s'.ino = s.ino) (hn : s'.nmd = s.nmd) (ha : s'.abv = s.abv) (hok : VoOk s') : Ms w' bi be bn ba (N + 1) s' := by
  have k : ∀ j, j < w.heap.size → j ≠ be → w'.heap[j]? = w.heap[j]? := fun j hj hne => hg.block j hj fun e => hne (Option.some.inj e)
  have hl := h.lt
  obtain ⟨h1, h2, ⟨F, h3, h4⟩, ⟨G, h5, h6⟩, h7⟩ := h
  exact ⟨by rw [he]; exact (h1.keep (k _ hl.1 (by omega))).mono (Nat.le_succ _), hi, ⟨F, (h3.keep (k _ hl.2.2.1 (by omega))).mono (Nat.le_succ _), by rw [hn]; exact h4⟩, ⟨G, (h5.keep (k _ hl.2.2.2 (by omega))).mono (Nat.le_succ _), by rw [ha]; exact h6⟩, hok⟩
theorem Ms.upN (h : Ms w bi be bn ba N s) (o : g < bi ∧ bi < be ∧ be < bn ∧ bn < ba) {F : Nat → Option Nat} (hi : mN.At w' bn (N + 1) F) (hF : ∀ x, s'.nmd x = (F x).getD 0) (hg : w.grownBy w' (some bn)) (he : s'.ino = s.ino) (hn : s'.ent = s.ent) (ha : s'.abv = s.abv) (hok : VoOk s') : Ms w' bi be bn ba (N + 1) s' := by
  have k : ∀ j, j < w.heap.size → j ≠ bn → w'.heap[j]? = w.heap[j]? := fun j hj hne => hg.block j hj fun e => hne (Option.some.inj e)
  have hl := h.lt
  obtain ⟨h1, h2, ⟨F, h3, h4⟩, ⟨G, h5, h6⟩, h7⟩ := h
  exact ⟨by rw [he]; exact (h1.keep (k _ hl.1 (by omega))).mono (Nat.le_succ _), by rw [hn]; exact (h2.keep (k _ hl.2.1 (by omega))).mono (Nat.le_succ _), ⟨_, hi, hF⟩, ⟨G, (h5.keep (k _ hl.2.2.2 (by omega))).mono (Nat.le_succ _), by rw [ha]; exact h6⟩, hok⟩
theorem Ms.upA (h : Ms w bi be bn ba N s) (o : g < bi ∧ bi < be ∧ be < bn ∧ bn < ba) {F : Nat → Option Nat} (hi : mN.At w' ba (N + 1) F) (hF : ∀ x, s'.abv x = (F x).getD 0) (hg : w.grownBy w' (some ba)) (he : s'.ino = s.ino) (hn : s'.ent = s.ent) (ha : s'.nmd = s.nmd) (hok : VoOk s') : Ms w' bi be bn ba (N + 1) s' := by
  have k : ∀ j, j < w.heap.size → j ≠ ba → w'.heap[j]? = w.heap[j]? := fun j hj hne => hg.block j hj fun e => hne (Option.some.inj e)
  have hl := h.lt
  obtain ⟨h1, h2, ⟨F, h3, h4⟩, ⟨G, h5, h6⟩, h7⟩ := h
  exact ⟨by rw [he]; exact (h1.keep (k _ hl.1 (by omega))).mono (Nat.le_succ _), by rw [hn]; exact (h2.keep (k _ hl.2.1 (by omega))).mono (Nat.le_succ _), ⟨F, (h3.keep (k _ hl.2.2.1 (by omega))).mono (Nat.le_succ _), by rw [ha]; exact h4⟩, ⟨_, hi, hF⟩, hok⟩
theorem Ms.xlt (h : Ms w bi be bn ba N s) (b : Nat) (hb : XM bi be bn ba b) : b < w.heap.size := by
  have hl := h.lt
  rcases hb with rfl | rfl | rfl | rfl
  · exact hl.1
  · exact hl.2.1
  · exact hl.2.2.1
  · exact hl.2.2.2
theorem VW.turn (h : VW w g bi be bn ba N it o1 o2 o3 rv pv s) {b M : Nat} (hb : XM bi be bn ba b) (hg : w.grownBy w' (some b)) (hm : Ms w' bi be bn ba M s') : VW w' g bi be bn ba M it o1 o2 o3 rv pv s' :=
  ⟨h.c.keep (hg.block g h.c.lt fun e => h.off (Option.some.inj e ▸ hb)), hm, h.o⟩
theorem eq0 (x : Int) : (x == 0) = decide (x = 0) := by by_cases h : x = 0 <;> simp [h]
theorem takeI_ok {p : Pt} (h : VoOk s) (hd : (deI p.v).lim ∧ (deI p.v).T.size ≤ maxLen) : VoOk (takeI s p) := by
  refine ⟨fun i n hi => ?_, h.ent, h.nmd, h.abv⟩
  unfold takeI at hi
  dsimp only at hi
  split at hi
  · cases hi; exact hd
  · exact h.ino i n hi
set_option maxHeartbeats 2000000 in
theorem takeInode_any (p : Pt) (hV : VW w g bi be bn ba N it o1 o2 o3 rv pv s) (hN : N < maxLen) (hl : p.k.lim) (hs : p.v.size ≤ maxLen) (hd : (deI p.v).lim ∧ (deI p.v).T.size ≤ maxLen) :
    Calls Tryz.prog 200 #[.pointer (some ⟨g, 0, none⟩), vP p] w (TkPost bi be bn ba (N + 3) (takeI s p) (decide (deIE p.v = 0)) w) := by
  have HOK := Lib.hid (takeI_ok hV.m.ok hd)
  obtain ⟨⟨K, I, Nm, C⟩, v⟩ := p
  have CD := Lib.hid (decode_in v hs)
  obtain ⟨S', hS'⟩ : ∃ S', takeI s ⟨⟨K, I, Nm, C⟩, v⟩ = S' := ⟨_, rfl⟩
  have HF : Hid (S'.ino I = some (deI v) ∧ (∀ z, z ≠ I → S'.ino z = s.ino z) ∧ S'.ent = s.ent ∧ S'.nmd = s.nmd ∧ S'.abv = s.abv) := Lib.hid (by
    rw [← hS']
    unfold takeI
    exact ⟨if_pos rfl, fun z hz => if_neg hz, rfl, rfl, rfl⟩)
  rw [hS'] at HOK ⊢
  clear hS' hd
  dsimp only at hl hs HOK HF ⊢
  obtain ⟨q, hq⟩ : ∃ q, decide (deIE v = 0) = q := ⟨_, rfl⟩
  rw [hq]
  have HQ := Lib.hid hq
  clear hq
  have hI : I < 4294967296 := hl.2.1
  obtain ⟨x, hx⟩ : ∃ x, deIE v = x := ⟨_, rfl⟩
  obtain ⟨n, hn⟩ : ∃ n, deI v = n := ⟨_, rfl⟩
  rw [hx] at CD HQ
  rw [hn] at CD HF
  clear hx hn hl hs
  obtain ⟨nK, nM, nL, nS, nT⟩ := n
  unfold vI at CD
  dsimp only at CD
  have C0 := box_cell w (encP ⟨⟨K, I, Nm, C⟩, v⟩).toArray 208 1 rfl
  have C4 := box_cell w (encP ⟨⟨K, I, Nm, C⟩, v⟩).toArray 208 4 rfl
  have B0 := Lib.hid ((Below.refl w.heap.size w).alloc (Nat.le_refl _) (.cells (encP ⟨⟨K, I, Nm, C⟩, v⟩).toArray 208))
  have V0 := Lib.hid (hV.go B0.out)
  have hsz : (w.alloc (.cells (encP ⟨⟨K, I, Nm, C⟩, v⟩).toArray 208)).heap.size = w.heap.size + 1 := by simp
  have HZ := Lib.hid hsz
  clear hsz hV
  unfold vP
  dsimp only [encP] at C0 C4 B0 V0 HZ ⊢
  go_enter Tryz.func200, Tryz.ntmps200
  go_wp2_with fail
  change Calls _ _ _ (w.alloc (.cells #[.int .u8 K, .int .u32 I, .string Nm, .int .u32 C, .string v] 208)) _
  generalize w.alloc (.cells #[.int .u8 K, .int .u32 I, .string Nm, .int .u32 C, .string v] 208) = W at *
  refine (CD.out W).mono ?_
  rintro e w1 ⟨rfl, hb⟩
  have hbl0 : w.heap.size < W.heap.size := by rw [HZ.out]; omega
  have V1 := Lib.hid (V0.out.go hb)
  have D0 := Lib.hid ((Below.cell hb (p := ⟨w.heap.size, 1, none⟩) hbl0).trans C0)
  have B1 := Lib.hid (B0.out.trans (hb.mono (by rw [HZ.out]; omega)))
  have hlt : w.heap.size < w1.heap.size := Nat.lt_of_lt_of_le hbl0 hb.size
  clear C0 C4 hb B0 HZ CD V0 hbl0
  have hal : Below w1.heap.size w1 (w1.alloc (.cells #[.int .u8 nK, .int .u16 nM, .int .u32 nL, .int .u32 nS, .string nT] 33)) := (Below.refl _ _).alloc (Nat.le_refl _) _
  have V2 := Lib.hid (V1.out.go hal)
  have R2 := Lib.hid (heap_alloc_new w1 (.cells #[.int .u8 nK, .int .u16 nM, .int .u32 nL, .int .u32 nS, .string nT] 33))
  have D2 := Lib.hid ((Below.cell hal (p := ⟨w.heap.size, 1, none⟩) hlt).trans D0.out)
  have B2 := Lib.hid (B1.out.trans (hal.mono B1.out.size))
  clear hal V1 D0 B1
  go_wp2_with fail
  generalize w1.alloc (.cells #[.int .u8 nK, .int .u16 nM, .int .u32 nL, .int .u32 nS, .string nT] 33) = w2 at *
  have c6 : w2.cell? ⟨g, 6, none⟩ = some (.map (some bi)) := V2.out.c.cells.2.2.2.1
  have d1 : w2.cell? ⟨w.heap.size, 1, none⟩ = some (.int .u32 I) := D2.out
  have f0 : w2.cell? ⟨w1.heap.size, 0, none⟩ = some (.int .u8 nK) := cell_of_row _ _ 0 _ _ _ R2.out
  have f1 : w2.cell? ⟨w1.heap.size, 1, none⟩ = some (.int .u16 nM) := cell_of_row _ _ 1 _ _ _ R2.out
  have f2 : w2.cell? ⟨w1.heap.size, 2, none⟩ = some (.int .u32 nL) := cell_of_row _ _ 2 _ _ _ R2.out
  have f3 : w2.cell? ⟨w1.heap.size, 3, none⟩ = some (.int .u32 nS) := cell_of_row _ _ 3 _ _ _ R2.out
  have f4 : w2.cell? ⟨w1.heap.size, 4, none⟩ = some (.string nT) := cell_of_row _ _ 4 _ _ _ R2.out
  go_still_tail 8, (by kernel_rfl)
  have V3 := Lib.hid V2.out.drew
  have B3 := Lib.hid B2.out.drew
  change wpList _ _ _ _ _ w2.drew
  clear c6 d1 f0 f1 f2 f3 f4 R2 D2 V2 B2 hlt
  generalize w2.drew = w3 at *
  have HQ2 := Lib.hid (show (x == 0) = q from (eq0 x).trans HQ.out)
  clear HQ
  go_wp2_with (refine Mq.wpList_put mI rfl _ _ _ (.inl rfl) bi N _ S'.ino rfl V3.out.m.i hN I hI rfl ⟨nK, nM, nL, nS, nT⟩ rfl HF.out.1 HF.out.2.1 ?_; intro w4 ha hg; have HA := Lib.hid ha; have HG := Lib.hid hg; clear ha hg)
  go_ret
  exact ⟨by rw [← HQ2.out]; rfl, (V3.out.m.upI V3.out.o HA.out HG.out HF.out.2.2.1 HF.out.2.2.2.1 HF.out.2.2.2.2 HOK.out).mono (by omega), (Off.of_below B3.out).trans (Off.of_grown HG.out (.inl rfl))⟩
/-! an entry -/
theorem takeE_ok {p : Pt} (h : VoOk s) (hl : p.k.lim) : VoOk (takeE s p) := by
  refine ⟨h.ino, fun k j hk => ?_, fun i => ?_, fun i => ?_⟩
  · unfold takeE at hk
    dsimp only at hk
    split at hk
    · cases hk; exact numOf_lt _
    · exact h.ent k j hk
  · unfold takeE
    dsimp only
    split
    · exact Nat.mod_lt _ (by decide)
    · exact h.nmd i
  · unfold takeE
    dsimp only
    split
    · exact hl.2.1
    · exact h.abv i
def nmdO (F : Nat → Option Nat) (j : Nat) (c : Nat) (i : Nat) : Option Nat := if i = j then some c else F i
theorem nmdO_same (F : Nat → Option Nat) (j c : Nat) : nmdO F j c j = some c := if_pos rfl
theorem nmdO_ne (F : Nat → Option Nat) (j c z : Nat) (h : z ≠ j) : nmdO F j c z = F z := if_neg h
theorem nmdO_get (F : Nat → Option Nat) (j c x : Nat) : (nmdO F j c x).getD 0 = if x = j then c else (F x).getD 0 := by
  unfold nmdO
  split <;> rfl
set_option maxHeartbeats 4000000 in
theorem takeEntry_any (p : Pt) (hV : VW w g bi be bn ba N it o1 o2 o3 rv pv s) (hN : N + 3 < maxLen) (hl : p.k.lim) (hk : kokK p.k) (hs : p.v.size ≤ maxLen) :
    Calls Tryz.prog 201 #[.pointer (some ⟨g, 0, none⟩), vP p] w (TkPost bi be bn ba (N + 3) (takeE s p) (decide (tE p.v 4 = 0) && (decide (tR p.v 4 = ByteArray.empty) && decide (2 ≤ numOf p.v))) w) := by
  have HOK := Lib.hid (takeE_ok hV.m.ok hl)
  obtain ⟨⟨K, I, Nm, C⟩, v⟩ := p
  have hI : I < 4294967296 := hl.2.1
  have HK := Lib.hid hk
  have HOK2 := Lib.hid hV.m.ok
  have CD := Lib.hid (fun w => Pk.take_any v 4 w hs)
  obtain ⟨S', hS'⟩ : ∃ S', takeE s ⟨⟨K, I, Nm, C⟩, v⟩ = S' := ⟨_, rfl⟩
  obtain ⟨j, hj⟩ : ∃ j, numOf v = j := ⟨_, rfl⟩
  have hjl : j < 4294967296 := by rw [← hj]; exact numOf_lt v
  have hjn : tN v 4 = (j : Int) := by
    rw [← hj]
    have h2 := (tN_lt v 4 (by omega)).1
    have e : ((4 : Nat) : Int) = 4 := rfl
    rw [e] at h2
    unfold numOf
    omega
  have HF : Hid (S'.ino = s.ino ∧ (S'.ent ⟨K, I, Nm, C⟩ = some j ∧ ∀ z, z ≠ ⟨K, I, Nm, C⟩ → S'.ent z = s.ent z) ∧ (∀ i, S'.nmd i = if i = j then (s.nmd i + 1) % 4294967296 else s.nmd i) ∧ (∀ i, S'.abv i = if i = j then I else s.abv i)) := Lib.hid (by
    rw [← hS', ← hj]
    unfold takeE
    exact ⟨rfl, ⟨if_pos rfl, fun z hz => if_neg hz⟩, fun _ => rfl, fun _ => rfl⟩)
  dsimp only at hj hS' HOK HK ⊢
  rw [hS'] at HOK ⊢
  rw [hj]
  rw [hjn] at CD
  clear hS' hj hjn hs hl hk
  obtain ⟨x, hx⟩ : ∃ x, tE v 4 = x := ⟨_, rfl⟩
  obtain ⟨R, hR⟩ : ∃ R, tR v 4 = R := ⟨_, rfl⟩
  rw [hx, hR] at CD ⊢
  clear hx hR
  obtain ⟨q, hq⟩ : ∃ q, (decide (x = 0) && (decide (R = ByteArray.empty) && decide (2 ≤ j))) = q := ⟨_, rfl⟩
  rw [hq]
  have HQ := Lib.hid hq
  clear hq
  have C0 := Lib.hid (heap_alloc_new w (.cells (encP ⟨⟨K, I, Nm, C⟩, v⟩).toArray 208))
  have C4 := box_cell w (encP ⟨⟨K, I, Nm, C⟩, v⟩).toArray 208 4 rfl
  have B0 := Lib.hid ((Below.refl w.heap.size w).alloc (Nat.le_refl _) (.cells (encP ⟨⟨K, I, Nm, C⟩, v⟩).toArray 208))
  have V0 := Lib.hid (hV.go B0.out)
  have hsz : (w.alloc (.cells (encP ⟨⟨K, I, Nm, C⟩, v⟩).toArray 208)).heap.size = w.heap.size + 1 := by simp
  have HZ := Lib.hid hsz
  have HWL := Lib.hid (show ∀ b, XM bi be bn ba b → b < w.heap.size from hV.m.xlt)
  clear hsz hV
  unfold vP
  dsimp only [encP] at C0 C4 B0 V0 HZ ⊢
  go_enter Tryz.func201, Tryz.ntmps201
  go_wp2_with fail
  change Calls _ _ _ (w.alloc (.cells #[.int .u8 K, .int .u32 I, .string Nm, .int .u32 C, .string v] 208)) _
  generalize w.alloc (.cells #[.int .u8 K, .int .u32 I, .string Nm, .int .u32 C, .string v] 208) = W at *
  refine (CD.out W).mono ?_
  rintro e w1 ⟨rfl, hb⟩
  have hbl0 : w.heap.size < W.heap.size := by rw [HZ.out]; omega
  have V1 := Lib.hid (V0.out.go hb)
  have R1 := Lib.hid (row_bel C0.out hb hbl0)
  have B1 := Lib.hid (B0.out.trans (hb.mono (by rw [HZ.out]; omega)))
  have hwr : IntKind.u32.wrap (j : Int) = (j : Int) := u32_id hjl
  clear C0 C4 hb B0 HZ CD V0 hbl0
  go_wp2_with fail
  have c7 : w1.cell? ⟨g, 7, none⟩ = some (.map (some be)) := V1.out.c.cells.2.2.2.2.1
  have f0 : w1.cell? ⟨w.heap.size, 0, none⟩ = some (.int .u8 K) := cell_of_row _ _ 0 _ _ _ R1.out
  have f1 : w1.cell? ⟨w.heap.size, 1, none⟩ = some (.int .u32 I) := cell_of_row _ _ 1 _ _ _ R1.out
  have f2 : w1.cell? ⟨w.heap.size, 2, none⟩ = some (.string Nm) := cell_of_row _ _ 2 _ _ _ R1.out
  have f3 : w1.cell? ⟨w.heap.size, 3, none⟩ = some (.int .u32 C) := cell_of_row _ _ 3 _ _ _ R1.out
  go_still_tail 7, (by kernel_rfl)
  have V2 := Lib.hid V1.out.drew
  have B2 := Lib.hid B1.out.drew
  have R2 := Lib.hid (show w1.drew.heap[w.heap.size]? = _ from R1.out)
  change wpList _ _ _ _ _ w1.drew
  clear c7 f0 f1 f2 f3 V1 B1 R1 hwr
  generalize w1.drew = w2 at *
  obtain ⟨F, hF, hFe⟩ := V2.out.m.n
  obtain ⟨G, hG, hGe⟩ := V2.out.m.a
  have HFF := Lib.hid hF
  have HFE := Lib.hid hFe
  have HGG := Lib.hid hG
  have HGE := Lib.hid hGe
  have HO := Lib.hid V2.out.o
  have HLT := Lib.hid V2.out.m.lt
  clear hF hFe hG hGe
  obtain ⟨c0, hc0⟩ : ∃ c0, (F j).getD 0 = c0 := ⟨_, rfl⟩
  obtain ⟨c1, hc1⟩ : ∃ c1, (c0 + 1) % 4294967296 = c1 := ⟨_, rfl⟩
  have hwa : IntKind.u32.wrap ((c0 : Int) + 1) = (c1 : Int) := by rw [← hc1, IntKind.wrap_u32]; omega
  have HNM := Lib.hid (show ∀ i, S'.nmd i = (nmdO F j c1 i).getD 0 from fun i => by
    rw [HF.out.2.2.1 i, nmdO_get, HFE.out]
    split
    · rename_i e; subst e; rw [hc0, hc1]
    · rfl)
  have HAB := Lib.hid (show ∀ i, S'.abv i = (nmdO G j I i).getD 0 from fun i => by rw [HF.out.2.2.2 i, nmdO_get, HGE.out])
  have HOK3 := Lib.hid (show VoOk ⟨s.ino, S'.ent, s.nmd, s.abv⟩ from ⟨HOK2.out.ino, HOK.out.ent, HOK2.out.nmd, HOK2.out.abv⟩)
  have HOK4 := Lib.hid (show VoOk ⟨s.ino, S'.ent, S'.nmd, s.abv⟩ from ⟨HOK2.out.ino, HOK.out.ent, HOK.out.nmd, HOK2.out.abv⟩)
  have HC0 := Lib.hid hc0
  clear hc0 hc1
  have HQL := Lib.hid (show w.heap.size < w2.heap.size from (Array.getElem?_eq_some_iff.1 R2.out).1)
  have HQN := Lib.hid (show ∀ b, XM bi be bn ba b → b < w.heap.size from HWL.out)
  have HKP := Lib.hid (fun (wa wb : World) (b : Nat) (hb : XM bi be bn ba b) (hg : wa.grownBy wb (some b)) (hl : w.heap.size < wa.heap.size) => hg.block w.heap.size hl (fun e => by have := HQN.out b hb; cases e; omega))
  go_wp2_with (first
    | (refine Mq.wpList_put mE rfl _ _ _ (.inl rfl) be N _ S'.ent rfl V2.out.m.e (by omega) ⟨K, I, Nm, C⟩ HK.out rfl j rfl HF.out.2.1.1 HF.out.2.1.2 ?_
       intro w3 ha hg
       have HG3 := Lib.hid hg
       have M3 := Lib.hid (V2.out.m.upE (s' := ⟨s.ino, S'.ent, s.nmd, s.abv⟩) HO.out ha hg rfl rfl rfl HOK3.out)
       have V3 := Lib.hid (V2.out.turn (.inr (.inl rfl)) hg M3.out)
       have R3 := Lib.hid ((HKP.out _ _ _ (.inr (.inl rfl)) hg HQL.out).trans R2.out)
       have O3 := Lib.hid ((Off.of_below (X := XM bi be bn ba) B2.out).trans (Off.of_grown hg (.inr (.inl rfl))))
       have HF3 := Lib.hid (HFF.out.keep (hg.block bn HLT.out.2.2.1 (fun e => by have := HO.out; cases e; omega)))
       have HA3 := Lib.hid (HGG.out.keep (hg.block ba HLT.out.2.2.2 (fun e => by have := HO.out; cases e; omega)))
       have HL3 := Lib.hid (Nat.lt_of_lt_of_le HQL.out hg.size)
       have c8 : w3.cell? ⟨g, 8, none⟩ = some (.map (some bn)) := V3.out.c.cells.2.2.2.2.2.1
       have hlk : (Instr.lookup 97 (.map (some bn)) (.int .u32 (j : Int)) false).run Tryz.prog w3 = .ok (.int .u32 (c0 : Int)) w3 := by
         rw [← HC0.out]
         exact lookN HF3.out hjl
       clear ha hg HG3 M3)
    | (refine Mq.wpList_put mN rfl _ _ _ (.inl rfl) bn N _ (nmdO F j c1) rfl HF3.out (by omega) j hjl rfl c1 rfl (nmdO_same F j c1) (nmdO_ne F j c1) ?_
       intro w4 ha hg
       have M4 := Lib.hid (V3.out.m.upN (s' := ⟨s.ino, S'.ent, S'.nmd, s.abv⟩) HO.out (ha.mono (Nat.le_succ _)) HNM.out hg rfl rfl rfl HOK4.out)
       have V4 := Lib.hid (V3.out.turn (.inr (.inr (.inl rfl))) hg M4.out)
       have R4 := Lib.hid ((HKP.out _ _ _ (.inr (.inr (.inl rfl))) hg HL3.out).trans R3.out)
       have O4 := Lib.hid (O3.out.trans (Off.of_grown hg (.inr (.inr (.inl rfl)))))
       have HA4 := Lib.hid (HA3.out.keep (hg.block ba (HA3.out.lt) (fun e => by have := HO.out; cases e; omega)))
       clear ha hg M4))
  have c9 : w4.cell? ⟨g, 9, none⟩ = some (.map (some ba)) := V4.out.c.cells.2.2.2.2.2.2
  have f1 : w4.cell? ⟨w.heap.size, 1, none⟩ = some (.int .u32 I) := cell_of_row _ _ 1 _ _ _ R4.out
  clear V3 R3 O3 c8 hlk V2 R2 B2 HQL HL3 HFF HF3 HA3 HNM
  go_still_tail 8, (by kernel_rfl)
  have V5 := Lib.hid V4.out.drew
  have O5 := Lib.hid (O4.out.trans (Off.of_below (Below.refl _ _).drew))
  have HA5 := Lib.hid (show mN.At w4.drew ba N G from HA4.out)
  change wpList _ _ _ _ _ w4.drew
  clear c9 f1 V4 O4 HA4 R4 hwa
  generalize w4.drew = w5 at *
  have HJ2 := Lib.hid (show decide ((2 : Int) ≤ (j : Int)) = decide (2 ≤ j) by apply decide_eq_decide.2; omega)
  by_cases hx : x = 0
  · subst hx
    by_cases hr : R.size = 0
    · have e1 := emp_of (decide_eq_true hr)
      obtain ⟨e1, e2⟩ := e1
      have e3 := emp_yes hr
      have HR := Lib.hid (size0 hr)
      clear hr
      go_wp2_with (first
        | (refine Mq.wpList_put mN rfl _ _ _ (.inl rfl) ba N _ (nmdO G j I) rfl HA5.out (by omega) j hjl rfl I rfl (nmdO_same G j I) (nmdO_ne G j I) ?_
           intro w6 ha hg
           have M6 := Lib.hid (V5.out.m.upA (s' := S') HO.out (ha.mono (by omega)) HAB.out hg HF.out.1 rfl rfl HOK.out)
           have O6 := Lib.hid (O5.out.trans (Off.of_grown hg (.inr (.inr (.inr rfl)))))
           clear ha hg))
      go_ret
      exact ⟨by rw [show q = decide ((2 : Int) ≤ (j : Int)) from by rw [HJ2.out, ← HQ.out]; simp [HR.out]]; rfl, M6.out, O6.out⟩
    · have e1 := emp_of (decide_eq_false hr)
      obtain ⟨e1, e2⟩ := e1
      have e3 := emp_no hr
      have HR := Lib.hid (show R ≠ ByteArray.empty from fun e => hr (by rw [e]; rfl))
      clear hr
      go_wp2_with (first
        | (refine Mq.wpList_put mN rfl _ _ _ (.inl rfl) ba N _ (nmdO G j I) rfl HA5.out (by omega) j hjl rfl I rfl (nmdO_same G j I) (nmdO_ne G j I) ?_
           intro w6 ha hg
           have M6 := Lib.hid (V5.out.m.upA (s' := S') HO.out (ha.mono (by omega)) HAB.out hg HF.out.1 rfl rfl HOK.out)
           have O6 := Lib.hid (O5.out.trans (Off.of_grown hg (.inr (.inr (.inr rfl)))))
           clear ha hg))
      go_ret
      exact ⟨by rw [show q = false from by rw [← HQ.out]; simp [HR.out]]; rfl, M6.out, O6.out⟩
  · have e1 : (x == 0) = false := by rw [eq0]; exact decide_eq_false hx
    have HX := Lib.hid hx
    go_wp2_with (first
      | (refine Mq.wpList_put mN rfl _ _ _ (.inl rfl) ba N _ (nmdO G j I) rfl HA5.out (by omega) j hjl rfl I rfl (nmdO_same G j I) (nmdO_ne G j I) ?_
         intro w6 ha hg
         have M6 := Lib.hid (V5.out.m.upA (s' := S') HO.out (ha.mono (by omega)) HAB.out hg HF.out.1 rfl rfl HOK.out)
         have O6 := Lib.hid (O5.out.trans (Off.of_grown hg (.inr (.inr (.inr rfl)))))
         clear ha hg))
    go_ret
    exact ⟨by rw [show q = false from by rw [← HQ.out]; simp [HX.out]]; rfl, M6.out, O6.out⟩
end Go.Proofs.YtjkmfonngbendaaGreatDoor.Di
/- Contracts of strings.HasSuffix for a zero byte, and of package dirs' take. -/
namespace Go.Proofs.YtjkmfonngbendaaGreatDoor.Di
set_option linter.unusedVariables false
set_option linter.unusedSimpArgs false
set_option maxRecDepth 100000
open Go.ChangeShapes Go.WideShapes Go.ChangeAt Go.RowKit
open BigFrame
open Ino
open Pk (tN tR tE)
variable {w w' : World} {g bi be bn ba N : Nat} {it o1 o2 o3 rv pv m1 m2 m3 m4 : Value} {s s' : Vo}
theorem lz_none {v : ByteArray} (h : v.size = 0) : lz v = false := by
  have := size0 h
  subst this
  unfold lz
  rw [ByteArray.toList_eq]
  rfl
theorem hasSuffix_any (v : ByteArray) (hs : v.size ≤ maxLen) (w : World) : Calls Tryz.prog 202 #[.string v, .string ⟨#[0]⟩] w fun e w' => e = .returned (.bool (lz v)) ∧ w = w' := by
  by_cases h0 : v.size = 0
  · have HL := Lib.hid (lz_none h0)
    have hk : v = { data := #[] } := size0 h0
    subst hk
    clear h0
    go_enter Tryz.func202, Tryz.ntmps202
    go_wp2_with (go_at_call 222; go_in)
    go_ret
    exact ⟨by rw [HL.out]; rfl, rfl⟩
  · obtain ⟨m, hm⟩ : ∃ m : Nat, v.size = m + 1 := ⟨v.size - 1, by omega⟩
    have HL := Lib.hid (show lz v = ((v.extract m (m + 1)).toList == [0]) by unfold lz; rw [hm]; rfl)
    have hw : IntKind.i64.wrap (m : Int) = (m : Int) := by
      have : v.size ≤ maxLen := hs
      unfold maxLen at this
      exact IntWalk.i64_in _ ⟨by omega, by omega⟩
    go_enter Tryz.func202, Tryz.ntmps202
    go_wp2_with (go_at_call 222; go_in)
    go_ret
    exact ⟨by rw [HL.out]; rfl, rfl⟩
set_option maxHeartbeats 4000000 in
theorem take_any (p : Pt) (hV : VW w g bi be bn ba N it o1 o2 o3 rv pv s) (hN : N + 3 < maxLen) (hl : p.k.lim) (hk : kokK p.k) (hs : p.v.size ≤ maxLen) (hd : (deI p.v).lim ∧ (deI p.v).T.size ≤ maxLen) :
    Calls Tryz.prog 178 #[.pointer (some ⟨g, 0, none⟩), vP p] w (TkPost bi be bn ba (N + 3) (takeP s p) (okP p) w) := by
  have CI := Lib.hid (fun (w1 : World) (h : VW w1 g bi be bn ba N it o1 o2 o3 rv pv s) => takeInode_any p h (by omega) hl hs hd)
  have CE := Lib.hid (fun (w1 : World) (h : VW w1 g bi be bn ba N it o1 o2 o3 rv pv s) => takeEntry_any p h hN hl hk hs)
  have CH := Lib.hid (hasSuffix_any p.v hs)
  have H1 := Lib.hid (show p.k.K = 1 → takeP s p = takeI s p ∧ okP p = decide (deIE p.v = 0) from fun h => ⟨by unfold takeP; rw [if_pos h], by unfold okP; rw [if_pos h]⟩)
  have H2 := Lib.hid (show p.k.K = 2 → takeP s p = takeE s p ∧ okP p = (decide (tE p.v 4 = 0) && (decide (tR p.v 4 = ByteArray.empty) && decide (2 ≤ numOf p.v))) from fun h => ⟨by unfold takeP; rw [if_neg (by omega), if_pos h], by unfold okP; rw [if_neg (by omega), if_pos h]⟩)
  have H3 := Lib.hid (show p.k.K = 3 → takeP s p = s ∧ okP p = (decide (p.v.size ≠ 0) && (decide (p.v.size ≤ 128) && !lz p.v)) from fun h => ⟨by unfold takeP; rw [if_neg (by omega), if_neg (by omega)], by unfold okP; rw [if_neg (by omega), if_neg (by omega), if_pos h]⟩)
  have H4 := Lib.hid (show p.k.K ≠ 1 → p.k.K ≠ 2 → p.k.K ≠ 3 → takeP s p = s ∧ okP p = decide (p.v.size ≤ 64) from fun h1 h2 h3 => ⟨by unfold takeP; rw [if_neg h1, if_neg h2], by unfold okP; rw [if_neg h1, if_neg h2, if_neg h3]⟩)
  have B0 := Lib.hid ((Below.refl w.heap.size w).alloc (Nat.le_refl _) (.cells (encP p).toArray 208))
  have V0 := Lib.hid (hV.go B0.out)
  have C0 := box_cell w (encP p).toArray 208 0 rfl
  have C1 := box_cell w (encP p).toArray 208 1 rfl
  have C2 := box_cell w (encP p).toArray 208 2 rfl
  have C3 := box_cell w (encP p).toArray 208 3 rfl
  have C4 := box_cell w (encP p).toArray 208 4 rfl
  clear hl hk hd hV
  obtain ⟨Y, hY⟩ : ∃ Y, takeP s p = Y := ⟨_, rfl⟩
  obtain ⟨q, hq⟩ : ∃ q, okP p = q := ⟨_, rfl⟩
  rw [hY, hq] at H1 H2 H3 H4 ⊢
  clear hY hq
  unfold vP at CI CE ⊢
  obtain ⟨⟨K, I, Nm, C⟩, v⟩ := p
  dsimp only [encP] at *
  by_cases k1 : K = 1
  · subst k1
    obtain ⟨rfl, rfl⟩ := H1.out rfl
    clear H1 H2 H3 H4 CE CH
    go_enter Tryz.func178, Tryz.ntmps178
    go_wp2_with (go_at_call 200; refine (CI.out _ V0.out).mono ?_; rintro e w1 ⟨rfl, hm, ho⟩; have HM := Lib.hid hm; have HO := Lib.hid ((Off.of_below (X := XM bi be bn ba) B0.out).trans ho); clear hm ho)
    go_ret
    exact ⟨rfl, HM.out, HO.out⟩
  · by_cases k2 : K = 2
    · subst k2
      obtain ⟨rfl, rfl⟩ := H2.out rfl
      clear H1 H2 H3 H4 CI CH
      go_enter Tryz.func178, Tryz.ntmps178
      go_wp2_with (go_at_call 201; refine (CE.out _ V0.out).mono ?_; rintro e w1 ⟨rfl, hm, ho⟩; have HM := Lib.hid hm; have HO := Lib.hid ((Off.of_below (X := XM bi be bn ba) B0.out).trans ho); clear hm ho)
      go_ret
      exact ⟨rfl, HM.out, HO.out⟩
    · by_cases k3 : K = 3
      · subst k3
        obtain ⟨rfl, h⟩ := H3.out rfl
        have HQ := Lib.hid h
        clear H1 H2 H3 H4 CI CE h
        by_cases h0 : v.size = 0
        · obtain ⟨e1, e2⟩ := emp_of (decide_eq_true h0)
          have e3 := emp_yes h0
          have HV := Lib.hid h0
          clear h0
          go_enter Tryz.func178, Tryz.ntmps178
          go_wp2_with fail
          go_ret
          exact ⟨by rw [HQ.out, HV.out]; rfl, (V0.out.m).mono (by omega), Off.of_below B0.out⟩
        · obtain ⟨e1, e2⟩ := emp_of (decide_eq_false h0)
          have e3 := emp_no h0
          have HV := Lib.hid h0
          clear h0
          by_cases h1 : v.size ≤ 128
          · have e4 : decide ((v.size : Int) ≤ 128) = true := decide_eq_true (by omega)
            have HV2 := Lib.hid h1
            clear h1
            go_enter Tryz.func178, Tryz.ntmps178
            go_wp2_with (go_at_call 202; refine (CH.out _).mono ?_; rintro e w1 ⟨rfl, rfl⟩)
            go_ret
            exact ⟨by rw [HQ.out, decide_eq_true HV.out, decide_eq_true HV2.out, Bool.true_and, Bool.true_and]; rfl, (V0.out.m).mono (by omega), Off.of_below B0.out⟩
          · have e4 : decide ((v.size : Int) ≤ 128) = false := decide_eq_false (by omega)
            have HV2 := Lib.hid h1
            clear h1
            go_enter Tryz.func178, Tryz.ntmps178
            go_wp2_with fail
            go_ret
            exact ⟨by rw [HQ.out, decide_eq_true HV.out, decide_eq_false HV2.out, Bool.true_and, Bool.false_and]; rfl, (V0.out.m).mono (by omega), Off.of_below B0.out⟩
      · obtain ⟨rfl, h⟩ := H4.out k1 k2 k3
        have HQ := Lib.hid h
        have HD := Lib.hid (show decide ((v.size : Int) ≤ 64) = decide (v.size ≤ 64) by apply decide_eq_decide.2; omega)
        have g1 : ((K : Int) == 1) = false := eqz1 (decide_eq_false k1)
        have g2 : ((K : Int) == 2) = false := eqz2 (decide_eq_false k2)
        have g3 : ((K : Int) == 3) = false := eqz3 (decide_eq_false k3)
        clear H1 H2 H3 H4 CI CE CH h
        go_enter Tryz.func178, Tryz.ntmps178
        go_wp2_with fail
        go_ret
        exact ⟨by rw [HQ.out, ← HD.out]; rfl, (V0.out.m).mono (by omega), Off.of_below B0.out⟩
end Go.Proofs.YtjkmfonngbendaaGreatDoor.Di
/- Contract of package dirs' takeAll. -/
namespace Go.Proofs.YtjkmfonngbendaaGreatDoor.Di
set_option linter.unusedVariables false
set_option linter.unusedSimpArgs false
set_option maxRecDepth 100000
open Go.ChangeShapes Go.WideShapes Go.ChangeAt Go.RowKit
open BigFrame
open Ar Rg
open Ino
open It (Itm)
variable {w w' : World} {g bi be bn ba N bb : Nat} {it o1 o2 o3 rv pv m1 m2 m3 m4 v : Value} {s s' : Vo} {ps : List Pt}
theorem infoP : (Tryz.prog.info? 208).map (fun i => (i.zero, i.size, i.bytes)) = some (some (.agg #[.int .u8 0, .int .u32 0, .string ByteArray.empty, .int .u32 0, .string ByteArray.empty]), 5, 48) := by kernel_rfl
/-- parts of the call's own, in blocks from bb on -/
def PA (bb : Nat) (w : World) (v : Value) (ps : List Pt) : Prop := w.ownsRow bb 208 5 v ps.length (ps.flatMap encP)
theorem PA.nil (bb : Nat) (w : World) : PA bb w (.slice none 0 0) [] := World.ownsRow_nil _ _ _ _
theorem PA.off {X : Nat → Prop} (h : PA bb w v ps) (ho : Off X w w') (hX : ∀ j, X j → j < bb) : PA bb w' v ps := by
  refine ⟨h.1, ?_⟩
  rcases h.2 with h0 | ⟨q, cap, cur, rfl, hb, hq, rest⟩
  · exact .inl h0
  · have hlt : q < w.heap.size := (Array.getElem?_eq_some_iff.1 hq).1
    exact .inr ⟨q, cap, cur, rfl, hb, (ho.block q hlt fun hx => by have := hX q hx; omega).trans hq, rest⟩
theorem PA.go (h : PA bb w v ps) (hb : Below w.heap.size w w') : PA bb w' v ps := h.off (Off.of_below (X := fun _ => False) hb) (fun _ h => h.elim)
theorem PA.ls (h : PA bb w v ps) : ∃ A c, v = .slice A ps.length c ∧ ps.length ≤ c ∧ c ≤ maxLen ∧ Ls encP 5 w w.heap.size A ps := by
  rcases h.2 with ⟨rfl, h0⟩ | ⟨q, cap, cur, rfl, hb, hq, hn, hc, hcs, ht⟩
  · have : ps = [] := List.eq_nil_of_length_eq_zero h0
    subst this
    exact ⟨_, _, rfl, Nat.le_refl _, Nat.zero_le _, Ls.nil⟩
  · refine ⟨_, _, rfl, hn, hc, fun i x hx => ⟨q, 0, rfl, (Array.getElem?_eq_some_iff.1 hq).1, fun j u hu => ?_⟩⟩
    rw [Nat.zero_add]
    have := h.cells (g := q) rfl _ _ (flat_get encP_len hx hu)
    rw [Ar.add_plain, Nat.zero_add] at this
    exact this
theorem PA.own (h : PA bb w v ps) (k : Nat) (hk : v.ownBlock = some k) : bb ≤ k ∧ k < w.heap.size := h.lt k hk
theorem op_catP {o : Oper} {a : Act} {K : Act → World → Prop} {Q : Exit → Act → World → Prop} (h : PA bb w v ps) (hb : bb ≤ w.heap.size) (y : Pt) (q c : Nat) (hrow : w.heap[q]? = some (.cells (encP y).toArray 208 (0, 0))) (hlen : ps.length + 1 ≤ 1099511627776)
    (s x : Operand) (ho : o.op = .call { callee := .builtin .append, args := #[s, x], argTypes := #[94, 94] }) (hs : a.eval s = v) (hx : a.eval x = .slice (some ⟨q, 0, none⟩) 1 c)
    (hK : ∀ v' w', PA bb w' v' (ps ++ [y]) → w.grownBy w' v.ownBlock → (v'.ownBlock = v.ownBlock ∨ v'.ownBlock = some w.heap.size) → K (a.put o.dst v') w') : Oper.wp Tryz.prog o a w K Q := by
  obtain ⟨i0, hi, hz0, hz1, hz2⟩ := info_parts infoP
  obtain ⟨v', w', hr, h2, h3, _, h5⟩ := run_append_own_at (P := Tryz.prog) w bb 94 o.type 208 i0 _ 5 48 Tryz.underlying94 hi hz0 hz1 hz2 rfl (by decide) v ps.length (ps.flatMap encP) h ⟨q, 0, none⟩ 1 c (encP y) rfl
    (fun j u hu => by
      rw [Ar.add_plain, Nat.zero_add]
      exact (cell_of_row w q j (encP y).toArray 208 (0, 0) hrow).trans (by rw [List.getElem?_toArray]; exact hu)) (encP_one y) (by unfold maxLen; omega) (by omega) hb
  have hM' : PA bb w' v' (ps ++ [y]) := by
    unfold PA
    have e : (ps ++ [y]).flatMap encP = ps.flatMap encP ++ encP y := by simp
    rw [List.length_append, e]
    exact h2
  unfold Oper.wp execOp
  simp only [ho, List.map_toArray, List.map_cons, List.map_nil, hs, hx, resolve, invoke, builtin, Sem.run_bind, Sem.run_pure, Result.andThen_ok, hr]
  exact hK _ _ hM' h3 h5
theorem pts_snoc {L : List Itm} {i : Nat} {x : Itm} (h : L[i]? = some x) : pts (L.take (i + 1)) = pts (L.take i) ++ [ptOf x] := by
  unfold pts
  rw [List.take_add_one, h, List.map_append]; rfl
theorem all_snoc {L : List Itm} {i : Nat} {x : Itm} (h : L[i]? = some x) (h1 : ∀ y ∈ L.take i, okX y = true) (h2 : okX x = true) : ∀ y ∈ L.take (i + 1), okX y = true := by
  intro y hy
  rw [List.take_add_one, h] at hy
  rcases List.mem_append.1 hy with h3 | h3
  · exact h1 y h3
  · obtain rfl : y = x := by simpa using h3
    exact h2
theorem deI_lim (v : ByteArray) (h : v.size ≤ maxLen) : (deI v).lim ∧ (deI v).T.size ≤ maxLen := by
  unfold deI
  split
  · rename_i h1
    exact ⟨tkI_lim v, by have := (okI_size h1.1).1; unfold maxLen; omega⟩
  · exact ⟨⟨by decide, by decide, by decide, by decide⟩, Nat.zero_le _⟩
def XG (g bi be bn ba j : Nat) : Prop := j = g ∨ XM bi be bn ba j
theorem Off.wide {X Y : Nat → Prop} (h : Off X w w') (hX : ∀ j, X j → Y j) : Off Y w w' := ⟨h.os, h.tape, h.output, h.size, fun j hj hy => h.block j hj fun hx => hy (hX j hx)⟩
theorem off_set {X : Nat → Prop} (w : World) (a : Addr) (u : Value) (h : X a.block) : Off X w (w.setCell a u) := by
  refine ⟨rfl, rfl, rfl, by simp, fun j hj hx => ?_⟩
  exact Below.heap_setCell w a u j fun e => hx (by rw [e]; exact h)
theorem VC.set5 (h : VC w g it o1 o2 o3 rv pv m1 m2 m3 m4) (u : Value) : VC (w.setCell ⟨g, 5, none⟩ u) g it o1 o2 o3 rv u m1 m2 m3 m4 := by
  unfold VC at h ⊢
  simp [World.setCell, h, Array.getElem?_modify]
theorem VC.set4 (h : VC w g it o1 o2 o3 rv pv m1 m2 m3 m4) (u : Value) : VC (w.setCell ⟨g, 4, none⟩ u) g it o1 o2 o3 u pv m1 m2 m3 m4 := by
  unfold VC at h ⊢
  simp [World.setCell, h, Array.getElem?_modify]
theorem VC.set6 (h : VC w g it o1 o2 o3 rv pv m1 m2 m3 m4) (u : Value) : VC (w.setCell ⟨g, 6, none⟩ u) g it o1 o2 o3 rv pv u m2 m3 m4 := by
  unfold VC at h ⊢
  simp [World.setCell, h, Array.getElem?_modify]
theorem VC.set7 (h : VC w g it o1 o2 o3 rv pv m1 m2 m3 m4) (u : Value) : VC (w.setCell ⟨g, 7, none⟩ u) g it o1 o2 o3 rv pv m1 u m3 m4 := by
  unfold VC at h ⊢
  simp [World.setCell, h, Array.getElem?_modify]
theorem VC.set8 (h : VC w g it o1 o2 o3 rv pv m1 m2 m3 m4) (u : Value) : VC (w.setCell ⟨g, 8, none⟩ u) g it o1 o2 o3 rv pv m1 m2 u m4 := by
  unfold VC at h ⊢
  simp [World.setCell, h, Array.getElem?_modify]
theorem VC.set9 (h : VC w g it o1 o2 o3 rv pv m1 m2 m3 m4) (u : Value) : VC (w.setCell ⟨g, 9, none⟩ u) g it o1 o2 o3 rv pv m1 m2 m3 u := by
  unfold VC at h ⊢
  simp [World.setCell, h, Array.getElem?_modify]
theorem VC.fz (h : VC w g it o1 o2 o3 rv pv m1 m2 m3 m4) (i : Nat) : w.frozen? ⟨g, i, none⟩ = false := frozen_of_row w g i _ _ h
def TaPost (g bi be bn ba bb : Nat) (it o1 o2 o3 rv : Value) (L : List Itm) (w : World) (e : Ending) (w' : World) : Prop :=
  ∃ pv, e = .returned (.bool (L.all okX)) ∧ VC w' g it o1 o2 o3 rv pv (.map (some bi)) (.map (some be)) (.map (some bn)) (.map (some ba)) ∧ (L.all okX = true → Ms w' bi be bn ba (3 * L.length) (vo (pts L)) ∧ PA bb w' pv (pts L)) ∧ Off (XG g bi be bn ba) w w'
set_option maxHeartbeats 2000000 in
theorem takeAll_any (L : List Itm) (A : Option Addr) (n c : Nat) (hV : VW w g bi be bn ba 0 (.slice A n c) o1 o2 o3 rv (.slice none 0 0) vo0) (hn : n = L.length) (hm : n ≤ 1048576) (hD : Ls It.enc 2 w g A L) (hsz : ∀ x ∈ L, x.k.size ≤ 48 ∧ x.v.size ≤ 160) :
    Calls Tryz.prog 133 #[.pointer (some ⟨g, 0, none⟩)] w (TaPost g bi be bn ba w.heap.size (.slice A n c) o1 o2 o3 rv L w) := by
  have HD := Lib.hid hD
  have HN := Lib.hid hn
  have HSZ := Lib.hid hsz
  have HG := Lib.hid (show ∀ j, XG g bi be bn ba j → j < w.heap.size from fun j hj => by
    rcases hj with rfl | hj
    · exact hV.c.lt
    · exact hV.m.xlt j hj)
  have HO := Lib.hid hV.o
  have c0 := hV.c.cells.1
  have HV := Lib.hid hV
  clear hD hn hsz hV
  go_enter Tryz.func133, Tryz.ntmps133
  go_wp2_with fail
  go_loopw [13] (fun v wr => ∃ (i : Nat) (pw : Value), i ≤ n ∧ v = .int .i64 i ∧ Hid (VW wr g bi be bn ba (3 * i) (.slice A n c) o1 o2 o3 rv pw (vo (pts (L.take i)))) ∧ Hid (PA w.heap.size wr pw (pts (L.take i))) ∧ Hid (∀ y ∈ L.take i, okX y = true) ∧ Hid (Off (XG g bi be bn ba) w wr)) (fun v _ => n - (intOf v).toNat)
  case atStart => exact ⟨0, _, Nat.zero_le _, by go_num, HV.out, PA.nil _ _, fun y hy => (by cases hy), Off.refl _ _⟩
  case round =>
    obtain ⟨i, pw, hi, rfl, hv, hp, ha, ho⟩ := hrel
    have HV1 := Lib.hid (Hid.out hv)
    have HP1 := Lib.hid (Hid.out hp)
    have HA1 := Lib.hid (Hid.out ha)
    have HO1 := Lib.hid (Hid.out ho)
    clear hv hp ha ho c0 HV
    by_cases hlt : i < n
    · obtain ⟨x, hx⟩ : ∃ x, L[i]? = some x := ⟨_, List.getElem?_eq_getElem (by rw [← HN.out]; exact hlt)⟩
      obtain ⟨b, o, hAe, hbs, hr⟩ := HD.out i x hx
      have HSX := Lib.hid (HSZ.out x (List.mem_of_getElem? hx))
      have HPS := Lib.hid (pts_snoc hx)
      have HAS := Lib.hid (fun h2 => all_snoc hx HA1.out h2)
      have HMX := Lib.hid (List.mem_of_getElem? hx)
      have hbw : b < w.heap.size := by have := HG.out g (.inl rfl); omega
      have hkb : wr.heap[b]? = w.heap[b]? := HO1.out.block b hbw (fun hx => by
        have := HO.out
        rcases hx with h | h | h | h | h <;> omega)
      have e0 : wr.cell? ⟨b, o + i * 2, none⟩ = some (.string x.k) := (World.cell?_of_block (a := ⟨b, _, none⟩) hkb).trans (hr 0 _ rfl)
      have e1 : wr.cell? ⟨b, o + i * 2 + 1, none⟩ = some (.string x.v) := (World.cell?_of_block (a := ⟨b, _, none⟩) hkb).trans (hr 1 _ rfl)
      clear hr hx hkb
      subst hAe
      have hal : Below wr.heap.size wr (wr.alloc (.cells #[.string x.k, .string x.v] 82)) := (Below.refl _ _).alloc (Nat.le_refl _) _
      have HIT := Lib.hid (heap_alloc_new wr (.cells #[.string x.k, .string x.v] 82))
      have HV2 := Lib.hid (HV1.out.go hal)
      have HP2 := Lib.hid (HP1.out.go hal)
      have HO2 := Lib.hid (HO1.out.trans (Off.of_below hal))
      have d0 : (wr.alloc (.cells #[.string x.k, .string x.v] 82)).cell? ⟨wr.heap.size, 0, none⟩ = some (.string x.k) := by simp
      have hszI : (wr.alloc (.cells #[.string x.k, .string x.v] 82)).heap.size = wr.heap.size + 1 := by simp
      have HZI := Lib.hid hszI
      have HO1L := Lib.hid HO1.out.size
      clear hal hszI HV1 HP1 HO1
      have HPC := Lib.hid (fun w => parse_in x.k (by have := HSX.out.1; unfold maxLen; omega) w)
      obtain ⟨kk, hkk⟩ : ∃ kk, deK x.k = kk := ⟨_, rfl⟩
      obtain ⟨y, hy⟩ : ∃ y, deKE x.k = y := ⟨_, rfl⟩
      rw [hkk, hy] at HPC
      have HKL := Lib.hid (show y = 0 → kk.lim ∧ kokK kk from fun h => by
        have h2 := deK_ok (hy.trans h)
        rw [hkk] at h2
        refine ⟨h2.2.2, h2.2.2, ?_⟩
        have := okK_size h2.1
        unfold maxLen; omega)
      have HPT := Lib.hid (show ptOf x = ⟨kk, x.v⟩ by unfold ptOf; rw [hkk])
      have HOX := Lib.hid (show okX x = (decide (y = 0) && okP ⟨kk, x.v⟩) by unfold okX ptOf; rw [hkk, hy])
      clear hkk hy
      obtain ⟨xk, xv⟩ := x
      dsimp only at *
      obtain ⟨kK, I, Nm, C⟩ := kk
      unfold vK at HPC
      dsimp only at HPC
      go_wp2_with fail
      generalize wr.alloc (.cells #[.string xk, .string xv] 82) = W at *
      refine (HPC.out W).mono ?_
      rintro e w1 ⟨rfl, hb⟩
      have hl0 : wr.heap.size < W.heap.size := by rw [HZI.out]; omega
      have HV3 := Lib.hid (HV2.out.go hb)
      have HP3 := Lib.hid (HP2.out.go hb)
      have HO3 := Lib.hid (HO2.out.trans (Off.of_below hb))
      have HIT3 := Lib.hid (row_bel HIT.out hb hl0)
      have hl1 : wr.heap.size < w1.heap.size := Nat.lt_of_lt_of_le hl0 hb.size
      have HLW := Lib.hid (show w.heap.size ≤ wr.heap.size from HO1L.out)
      have HLX := Lib.hid hl1
      have HPL := Lib.hid (fun k (hk : pw.ownBlock = some k) => (HP3.out.own k hk).2)
      clear hb HV2 HP2 HO2 HIT d0 e0 e1 HZI HPC hl0
      have hak : Below w1.heap.size w1 (w1.alloc (.cells #[.int .u8 kK, .int .u32 I, .string Nm, .int .u32 C] 37)) := (Below.refl _ _).alloc (Nat.le_refl _) _
      have hzk : (w1.alloc (.cells #[.int .u8 kK, .int .u32 I, .string Nm, .int .u32 C] 37)).heap.size = w1.heap.size + 1 := by simp
      have hap : Below (w1.heap.size + 1) (w1.alloc (.cells #[.int .u8 kK, .int .u32 I, .string Nm, .int .u32 C] 37)) ((w1.alloc (.cells #[.int .u8 kK, .int .u32 I, .string Nm, .int .u32 C] 37)).alloc (.cells #[.int .u8 kK, .int .u32 I, .string Nm, .int .u32 C, .string xv] 208)) := (Below.refl _ _).alloc (by rw [hzk]; exact Nat.le_refl _) _
      have rk := heap_alloc_new w1 (.cells #[.int .u8 kK, .int .u32 I, .string Nm, .int .u32 C] 37)
      have rp : ((w1.alloc (.cells #[.int .u8 kK, .int .u32 I, .string Nm, .int .u32 C] 37)).alloc (.cells #[.int .u8 kK, .int .u32 I, .string Nm, .int .u32 C, .string xv] 208)).heap[w1.heap.size + 1]? = some (.cells #[.int .u8 kK, .int .u32 I, .string Nm, .int .u32 C, .string xv] 208) := by have := heap_alloc_new (w1.alloc (.cells #[.int .u8 kK, .int .u32 I, .string Nm, .int .u32 C] 37)) (.cells #[.int .u8 kK, .int .u32 I, .string Nm, .int .u32 C, .string xv] 208); rw [hzk] at this; exact this
      have ri := row_bel HIT3.out hak hl1
      have k0 : (w1.alloc (.cells #[.int .u8 kK, .int .u32 I, .string Nm, .int .u32 C] 37)).cell? ⟨w1.heap.size, 0, none⟩ = some (.int .u8 kK) := cell_of_row _ _ 0 _ _ _ rk
      have k1 : (w1.alloc (.cells #[.int .u8 kK, .int .u32 I, .string Nm, .int .u32 C] 37)).cell? ⟨w1.heap.size, 1, none⟩ = some (.int .u32 I) := cell_of_row _ _ 1 _ _ _ rk
      have k2 : (w1.alloc (.cells #[.int .u8 kK, .int .u32 I, .string Nm, .int .u32 C] 37)).cell? ⟨w1.heap.size, 2, none⟩ = some (.string Nm) := cell_of_row _ _ 2 _ _ _ rk
      have k3 : (w1.alloc (.cells #[.int .u8 kK, .int .u32 I, .string Nm, .int .u32 C] 37)).cell? ⟨w1.heap.size, 3, none⟩ = some (.int .u32 C) := cell_of_row _ _ 3 _ _ _ rk
      have i1 : (w1.alloc (.cells #[.int .u8 kK, .int .u32 I, .string Nm, .int .u32 C] 37)).cell? ⟨wr.heap.size, 1, none⟩ = some (.string xv) := cell_of_row _ _ 1 _ _ _ ri
      have p0 : ((w1.alloc (.cells #[.int .u8 kK, .int .u32 I, .string Nm, .int .u32 C] 37)).alloc (.cells #[.int .u8 kK, .int .u32 I, .string Nm, .int .u32 C, .string xv] 208)).cell? ⟨w1.heap.size + 1, 0, none⟩ = some (.int .u8 kK) := cell_of_row _ _ 0 _ _ _ rp
      have p1 : ((w1.alloc (.cells #[.int .u8 kK, .int .u32 I, .string Nm, .int .u32 C] 37)).alloc (.cells #[.int .u8 kK, .int .u32 I, .string Nm, .int .u32 C, .string xv] 208)).cell? ⟨w1.heap.size + 1, 1, none⟩ = some (.int .u32 I) := cell_of_row _ _ 1 _ _ _ rp
      have p2 : ((w1.alloc (.cells #[.int .u8 kK, .int .u32 I, .string Nm, .int .u32 C] 37)).alloc (.cells #[.int .u8 kK, .int .u32 I, .string Nm, .int .u32 C, .string xv] 208)).cell? ⟨w1.heap.size + 1, 2, none⟩ = some (.string Nm) := cell_of_row _ _ 2 _ _ _ rp
      have p3 : ((w1.alloc (.cells #[.int .u8 kK, .int .u32 I, .string Nm, .int .u32 C] 37)).alloc (.cells #[.int .u8 kK, .int .u32 I, .string Nm, .int .u32 C, .string xv] 208)).cell? ⟨w1.heap.size + 1, 3, none⟩ = some (.int .u32 C) := cell_of_row _ _ 3 _ _ _ rp
      have p4 : ((w1.alloc (.cells #[.int .u8 kK, .int .u32 I, .string Nm, .int .u32 C] 37)).alloc (.cells #[.int .u8 kK, .int .u32 I, .string Nm, .int .u32 C, .string xv] 208)).cell? ⟨w1.heap.size + 1, 4, none⟩ = some (.string xv) := cell_of_row _ _ 4 _ _ _ rp
      have hab : Below w1.heap.size w1 ((w1.alloc (.cells #[.int .u8 kK, .int .u32 I, .string Nm, .int .u32 C] 37)).alloc (.cells #[.int .u8 kK, .int .u32 I, .string Nm, .int .u32 C, .string xv] 208)) := hak.trans (hap.mono (Nat.le_succ _))
      have HV4 := Lib.hid (HV3.out.go hab)
      have HP4 := Lib.hid (HP3.out.go hab)
      have HO4 := Lib.hid (HO3.out.trans (Off.of_below hab))
      have HRP := Lib.hid rp
      have HZP := Lib.hid (show ((w1.alloc (.cells #[.int .u8 kK, .int .u32 I, .string Nm, .int .u32 C] 37)).alloc (.cells #[.int .u8 kK, .int .u32 I, .string Nm, .int .u32 C, .string xv] 208)).heap.size = w1.heap.size + 2 by simp)
      clear hak hap hab hzk rk rp ri HV3 HP3 HO3 HIT3
      by_cases hy : y = 0
      · subst hy
        have HCT := Lib.hid (take_any (⟨⟨kK, I, Nm, C⟩, xv⟩ : Pt) HV4.out (by unfold maxLen; omega) (HKL.out rfl).1 (HKL.out rfl).2 (by have := HSX.out.2; unfold maxLen; dsimp only; omega) (deI_lim xv (by have := HSX.out.2; unfold maxLen; omega)))
        obtain ⟨q, hq⟩ : ∃ q, okP ⟨⟨kK, I, Nm, C⟩, xv⟩ = q := ⟨_, rfl⟩
        rw [hq] at HCT HOX
        clear hq
        unfold vP at HCT
        dsimp only [encP] at HCT
        cases q
        · go_wp2_with (go_at_call 178; refine HCT.out.mono ?_; rintro e w2 ⟨rfl, hm2, ho2⟩; have HM2 := Lib.hid hm2; have HO5 := Lib.hid (HO4.out.trans (ho2.wide (fun _ h => .inr h))); have HC5 := Lib.hid (HV4.out.c.keep (ho2.block g HV4.out.c.lt HV4.out.off)); clear hm2 ho2)
          go_ret
          have hno : L.all okX = false := by
            rw [Bool.eq_false_iff]
            intro h
            have := List.all_eq_true.1 h _ HMX.out
            rw [HOX.out] at this
            cases this
          exact ⟨pw, by rw [hno]; rfl, HC5.out, fun h => by (rw [hno] at h; cases h), HO5.out⟩
        · go_wp2_with (go_at_call 178; refine HCT.out.mono ?_; rintro e w2 ⟨rfl, hm2, ho2⟩; have HM2 := Lib.hid hm2; have HOM := Lib.hid ho2; clear hm2 ho2)
          have HM3 := Lib.hid (show Ms w2 bi be bn ba (3 * i + 3) (vo (pts (L.take (i + 1)))) by rw [HPS.out, vo_snoc, HPT.out]; exact HM2.out)
          have HC3 := Lib.hid (HV4.out.c.keep (HOM.out.block g HV4.out.c.lt HV4.out.off))
          have HP5 := Lib.hid (HP4.out.off HOM.out (fun j hj => HG.out j (.inr hj)))
          have HO5 := Lib.hid (HO4.out.trans (HOM.out.wide (fun _ h => .inr h)))
          have HR5 := Lib.hid ((HOM.out.block (w1.heap.size + 1) (by rw [HZP.out]; omega) (fun hj => by have h1 := HG.out _ (.inr hj); have h2 := HLW.out; have h3 := HLX.out; omega)).trans HRP.out)
          have HZ5 := Lib.hid (show w1.heap.size + 1 < w2.heap.size by have := HOM.out.size; rw [HZP.out] at this; omega)
          have HPX := Lib.hid (show pw.ownBlock = some (w1.heap.size + 1) → False from fun e => by have := (HPL.out _ e); have h3 := HLX.out; omega)
          clear HV4 HP4 HO4 HM2 HOM HRP HCT HZP
          generalize w1.heap.size + 1 = pb at *
          refine wp_region_T (fun w' : World => VC w' g (.slice (some ⟨b, o, none⟩) n c) o1 o2 o3 rv pw (.map (some bi)) (.map (some be)) (.map (some bn)) (.map (some ba)) ∧ w'.heap[pb]? = some (.cells #[.int .u8 kK, .int .u32 I, .string Nm, .int .u32 C, .string xv] 208 (0, 0))) 8 (by kernel_rfl) (by kernel_rfl) ?_
          have HM4 := Lib.hid (HM3.out.keep (w' := w2.drew) fun _ _ => rfl)
          have HC4 := Lib.hid (HC3.out.keep (w' := w2.drew) rfl)
          have HP6 := Lib.hid (HP5.out.go (Below.refl _ _).drew)
          have HO6 := Lib.hid (HO5.out.trans (Off.of_below (Below.refl _ _).drew))
          have HR6 := Lib.hid (show w2.drew.heap[pb]? = some (.cells #[.int .u8 kK, .int .u32 I, .string Nm, .int .u32 C, .string xv] 208 (0, 0)) from HR5.out)
          have HZ6 := Lib.hid (show pb < w2.drew.heap.size from HZ5.out)
          clear HM3 HC3 HP5 HO5 HR5 HZ5
          generalize w2.drew = w3 at *
          have hS : VC w3 g (.slice (some ⟨b, o, none⟩) n c) o1 o2 o3 rv pw (.map (some bi)) (.map (some be)) (.map (some bn)) (.map (some ba)) ∧ w3.heap[pb]? = some (.cells #[.int .u8 kK, .int .u32 I, .string Nm, .int .u32 C, .string xv] 208 (0, 0)) := ⟨HC4.out, HR6.out⟩
          refine take_T 0 35 (.pointer (some ⟨g, 0, none⟩)) rfl (by rfl) (by kernel_rfl) (by decide) (by kernel_rfl) (by kernel_rfl) (by kernel_rfl) (fun _ _ _ h => h) (Or.inl ⟨by rfl, fun w' hSw => by obtain ⟨s0, s1⟩ := hSw; go_simp⟩) hS ?_
          simp only [List.setIfInBounds_toArray, List.set_cons_zero, List.set_cons_succ]
          refine take_T 1 36 (.pointer (some ⟨g, 0, none⟩)) rfl (by rfl) (by kernel_rfl) (by decide) (by kernel_rfl) (by kernel_rfl) (by kernel_rfl) (fun _ _ _ h => h) (Or.inl ⟨by rfl, fun w' hSw => by obtain ⟨s0, s1⟩ := hSw; go_simp⟩) hS ?_
          simp only [List.setIfInBounds_toArray, List.set_cons_zero, List.set_cons_succ]
          refine take_T 2 37 (.pointer (some ⟨g, 0, none⟩)) rfl (by rfl) (by kernel_rfl) (by decide) (by kernel_rfl) (by kernel_rfl) (by kernel_rfl) (fun _ _ _ h => h) (Or.inl ⟨by rfl, fun w' hSw => by obtain ⟨s0, s1⟩ := hSw; have c5 := s0.cells.2.2.1; go_simp⟩) hS ?_
          simp only [List.setIfInBounds_toArray, List.set_cons_zero, List.set_cons_succ]
          refine take_T 3 38 (.pointer (some ⟨g, 5, none⟩)) rfl (by rfl) (by kernel_rfl) (by decide) (by kernel_rfl) (by kernel_rfl) (by kernel_rfl) (fun _ _ _ h => h) (Or.inl ⟨by rfl, fun w' hSw => by obtain ⟨s0, s1⟩ := hSw; go_simp⟩) hS ?_
          simp only [List.setIfInBounds_toArray, List.set_cons_zero, List.set_cons_succ]
          refine take_T 4 39 (pw) rfl (by rfl) (by kernel_rfl) (by decide) (by kernel_rfl) (by kernel_rfl) (by kernel_rfl) (fun _ _ _ h => h) (Or.inl ⟨by rfl, fun w' hSw => by obtain ⟨s0, s1⟩ := hSw; have c5 := s0.cells.2.2.1; go_simp⟩) hS ?_
          simp only [List.setIfInBounds_toArray, List.set_cons_zero, List.set_cons_succ]
          refine take_T 5 40 (.agg #[.int .u8 kK, .int .u32 I, .string Nm, .int .u32 C, .string xv]) rfl (by rfl) (by kernel_rfl) (by decide) (by kernel_rfl) (by kernel_rfl) (by kernel_rfl) (fun _ _ _ h => h) (Or.inl ⟨by rfl, fun w' hSw => by obtain ⟨s0, s1⟩ := hSw; exact row_run 208 rfl pb rfl _ _ (0, 0) _ s1 Tryz.underlying208 rfl (by kernel_rfl)⟩) hS ?_
          simp only [List.setIfInBounds_toArray, List.set_cons_zero, List.set_cons_succ]
          refine only_T 6 rfl (by kernel_rfl) (by decide) (by rfl) (fun K hK => ?_)
          go_simp
          have hal : Below w3.heap.size w3 (w3.alloc (.cells #[.int .u8 kK, .int .u32 I, .string Nm, .int .u32 C, .string xv] 208)) := (Below.refl _ _).alloc (Nat.le_refl _) _
          have HM7 := Lib.hid (HM4.out.keep (w' := w3.alloc (.cells #[.int .u8 kK, .int .u32 I, .string Nm, .int .u32 C, .string xv] 208)) fun j hj => hal.block j (HM4.out.xlt j hj))
          have HC7 := Lib.hid (HC4.out.keep (hal.block g HC4.out.lt))
          have HP7 := Lib.hid (HP6.out.go hal)
          have HO7 := Lib.hid (HO6.out.trans (Off.of_below hal))
          have HR7 := Lib.hid (row_bel HR6.out hal HZ6.out)
          have HNB := Lib.hid (heap_alloc_new w3 (.cells #[.int .u8 kK, .int .u32 I, .string Nm, .int .u32 C, .string xv] 208))
          have HZ7 := Lib.hid (show (w3.alloc (.cells #[.int .u8 kK, .int .u32 I, .string Nm, .int .u32 C, .string xv] 208)).heap.size = w3.heap.size + 1 by simp)
          have hS2 : VC (w3.alloc (.cells #[.int .u8 kK, .int .u32 I, .string Nm, .int .u32 C, .string xv] 208)) g (.slice (some ⟨b, o, none⟩) n c) o1 o2 o3 rv pw (.map (some bi)) (.map (some be)) (.map (some bn)) (.map (some ba)) ∧ (w3.alloc (.cells #[.int .u8 kK, .int .u32 I, .string Nm, .int .u32 C, .string xv] 208)).heap[pb]? = some (.cells #[.int .u8 kK, .int .u32 I, .string Nm, .int .u32 C, .string xv] 208 (0, 0)) := ⟨HC7.out, HR7.out⟩
          clear hal
          refine hK.out _ _ hS2 ?_
          clear hK K
          try simp only [Act.put, List.setIfInBounds_toArray, List.set_cons_zero, List.set_cons_succ]
          clear hS
          have hS := hS2
          clear hS2
          refine only_T 7 rfl (by kernel_rfl) (by decide) (by rfl) (fun K hK => ?_)
          refine op_catP HP7.out (by have h1 := HO6.out.size; rw [HZ7.out]; omega) ⟨⟨kK, I, Nm, C⟩, xv⟩ w3.heap.size 1 HNB.out (by unfold pts; rw [List.length_map, List.length_take]; omega) _ _ rfl rfl rfl ?_
          intro v6 w6 hp6 hg6 hat
          obtain ⟨A6, c6, rfl, _⟩ := hp6.ls
          have hoff : ∀ j, j < w3.heap.size → w.heap.size > j → w6.heap[j]? = (w3.alloc (.cells #[.int .u8 kK, .int .u32 I, .string Nm, .int .u32 C, .string xv] 208)).heap[j]? := fun j h1 h2 => hg6.block j (by rw [HZ7.out]; omega) (fun e => by have := (HP7.out.own j e.symm).1; omega)
          have HM8 := Lib.hid (HM7.out.keep (w' := w6) fun j hj => hoff j (by have h1 := HO6.out.size; have h2 := HG.out j (.inr hj); omega) (HG.out j (.inr hj)))
          have HC8 := Lib.hid (HC7.out.keep (hoff g (by have h1 := HO6.out.size; have h2 := HG.out g (.inl rfl); omega) (HG.out g (.inl rfl))))
          have HP8 := Lib.hid (show PA w.heap.size w6 (.slice A6 _ c6) (pts (L.take (i + 1))) by rw [HPS.out, HPT.out]; exact hp6)
          have HO8 := Lib.hid (show Off (XG g bi be bn ba) w w6 from ⟨hg6.os.trans HO7.out.os, hg6.tape.trans HO7.out.tape, hg6.output.trans HO7.out.output, Nat.le_trans HO7.out.size hg6.size, fun j hj hx => (hoff j (Nat.lt_of_lt_of_le hj HO6.out.size) hj).trans (HO7.out.block j hj hx)⟩)
          have HR8 := Lib.hid ((hg6.block pb (by rw [HZ7.out]; have := HZ6.out; omega) (fun e => HPX.out e.symm)).trans HR7.out)
          have hS2 : VC w6 g (.slice (some ⟨b, o, none⟩) n c) o1 o2 o3 rv pw (.map (some bi)) (.map (some be)) (.map (some bn)) (.map (some ba)) ∧ w6.heap[pb]? = some (.cells #[.int .u8 kK, .int .u32 I, .string Nm, .int .u32 C, .string xv] 208 (0, 0)) := ⟨HC8.out, HR8.out⟩
          clear hp6 hg6 hat hoff HM4 HC4 HP6 HO6 HR6 HM7 HC7 HP7 HO7 HR7 HNB HZ7 HZ6
          refine hK.out _ _ hS2 ?_
          clear hK K
          try simp only [Act.put, List.setIfInBounds_toArray, List.set_cons_zero, List.set_cons_succ]
          refine done_T (by kernel_rfl) ?_
          simp only [List.drop_succ_cons, List.drop_zero]
          have f5 := HC8.out.fz 5
          have c5 : w6.cell? ⟨g, 5, none⟩ = some pw := HC8.out.cells.2.2.1
          go_wp2_with fail
          have hoc : ∀ u, Off (fun j => j = g) w6 (w6.setCell ⟨g, 5, none⟩ u) := fun u => off_set w6 _ _ rfl
          have hp9 := HP8.out
          rw [List.length_append, List.length_singleton] at hp9
          have hok : okX ⟨xk, xv⟩ = true := HOX.out
          exact ⟨⟨i + 1, _, by omega, by go_num, ⟨HC8.out.set5 _, (HM8.out.keep fun j hj => (hoc _).block j (HM8.out.xlt j hj) (fun e => by have := HO.out; unfold XM at hj; omega)).mono (show 3 * i + 3 ≤ 3 * (i + 1) by omega), HO.out⟩, hp9.off (hoc _) (fun j hj => by rw [hj]; exact HG.out g (.inl rfl)), HAS.out hok, HO8.out.trans ((hoc _).wide (Y := XG g bi be bn ba) (fun j hj => Or.inl hj))⟩, by simp [intOf] <;> omega⟩
      · have hy1 : (y == 0) = false := by rw [eq0]; exact decide_eq_false hy
        have hy2 : (y != 0) = true := by rw [bne, hy1]; rfl
        have HY := Lib.hid hy
        go_wp2_with fail
        go_ret
        have hno : L.all okX = false := by
          rw [Bool.eq_false_iff]
          intro h
          have := List.all_eq_true.1 h _ HMX.out
          rw [HOX.out, decide_eq_false HY.out] at this
          cases this
        exact ⟨pw, by rw [hno]; rfl, HV4.out.c, fun h => by (rw [hno] at h; cases h), HO4.out⟩
    · have hin : i = n := by omega
      have HT := Lib.hid (show L.take i = L by rw [hin, HN.out, List.take_length])
      go_wp2
      go_ret
      have hT := HT.out
      have hall : L.all okX = true := List.all_eq_true.2 (by have := HA1.out; rw [hT] at this; exact this)
      have hV9 := HV1.out
      have hP9 := HP1.out
      rw [hT] at hV9 hP9
      exact ⟨pw, by rw [hall]; rfl, hV9.c, fun _ => ⟨by have := hV9.m; rwa [hin, HN.out] at this, hP9⟩, HO1.out⟩
end Go.Proofs.YtjkmfonngbendaaGreatDoor.Di
/- Contract of package dirs' strays. -/
namespace Go.Proofs.YtjkmfonngbendaaGreatDoor.Di
set_option linter.unusedVariables false
set_option linter.unusedSimpArgs false
set_option maxRecDepth 100000
open Go.ChangeShapes Go.WideShapes Go.ChangeAt Go.RowKit
open BigFrame
open Ar Rg
open Ino
variable {w w' : World} {g bi be bn ba N bb : Nat} {it o1 o2 o3 rv pv m1 m2 m3 m4 v : Value} {s s' : Vo} {ps : List Pt}
set_option maxHeartbeats 2000000 in
theorem strays_any (p : Pt) (hV : VW w g bi be bn ba N it o1 o2 o3 rv pv s) (hl : p.k.lim) (hk : kokK p.k) (hs : p.v.size ≤ 160) (hc : p.k.C < 512) :
    Calls Tryz.prog 135 #[.pointer (some ⟨g, 0, none⟩), vP p] w fun e w' => e = .returned (.bool (stray s p)) ∧ Below w.heap.size w w' := by
  obtain ⟨⟨kK, I, Nm, C⟩, xv⟩ := p
  have hI : I < 4294967296 := hl.2.1
  have HKK := Lib.hid hk
  have HSZ := Lib.hid hs
  obtain ⟨q0, hq0⟩ : ∃ q0, stray s ⟨⟨kK, I, Nm, C⟩, xv⟩ = q0 := ⟨_, rfl⟩
  rw [hq0]
  have HQ0 := Lib.hid hq0
  unfold stray at HQ0
  dsimp only at HQ0 hc
  have hal0 : Below w.heap.size w (w.alloc (.cells (encP ⟨⟨kK, I, Nm, C⟩, xv⟩).toArray 208)) := (Below.refl _ _).alloc (Nat.le_refl _) _
  have HVa := Lib.hid (hV.go hal0)
  have HBa := Lib.hid hal0
  have HRa := Lib.hid (heap_alloc_new w (.cells (encP ⟨⟨kK, I, Nm, C⟩, xv⟩).toArray 208))
  clear hq0 hal0 hV hk hs hl
  unfold vP
  dsimp only [encP] at HVa HBa HRa ⊢
  obtain ⟨n, hn⟩ : ∃ n, (s.ino I).getD zIn = n := ⟨_, rfl⟩
  obtain ⟨th, hth⟩ : ∃ th, (s.ino I).isSome = th := ⟨_, rfl⟩
  have HNN := Lib.hid hn
  have HTH := Lib.hid hth
  obtain ⟨nK, nM, nL, nS, nT⟩ := n
  have HLK := Lib.hid (fun (wx : World) (h : Ms wx bi be bn ba N s) => (show (Instr.lookup 95 (.map (some bi)) (.int .u32 (I : Int)) true).run Tryz.prog wx = .ok (.tuple #[.agg #[.int .u8 nK, .int .u16 nM, .int .u32 nL, .int .u32 nS, .string nT], .bool th]) wx by have := lookI_ok h.i hI; rw [hn, hth] at this; exact this))
  clear hn hth
  generalize hqq : w.heap.size = q at *
  go_enter Tryz.func135, Tryz.ntmps135
  go_wp2_with fail
  generalize w.alloc (.cells #[.int .u8 kK, .int .u32 I, .string Nm, .int .u32 C, .string xv] 208) = wa at *
  have HQQ := Lib.hid hqq
  clear hqq
  have HVda := Lib.hid (HVa.out.drew)
  have HRda := Lib.hid (show wa.drew.heap[q]? = some (.cells #[.int .u8 kK, .int .u32 I, .string Nm, .int .u32 C, .string xv] 208 (0, 0)) from HRa.out)
  have HBda := Lib.hid (HBa.out.drew)
  refine wp_region_held_drew (S := fun w' : World => VC w' g it o1 o2 o3 rv pv (.map (some bi)) (.map (some be)) (.map (some bn)) (.map (some ba)) ∧ Ms w' bi be bn ba N s ∧ w'.heap[q]? = some (.cells #[.int .u8 kK, .int .u32 I, .string Nm, .int .u32 C, .string xv] 208 (0, 0))) (by kernel_rfl) ⟨HVda.out.c, HVda.out.m, HRda.out⟩ (fun hHeld => ?_)
  clear hHeld HVa HRa HBa
  generalize wa.drew = wad at *
  have hS : VC wad g it o1 o2 o3 rv pv (.map (some bi)) (.map (some be)) (.map (some bn)) (.map (some ba)) ∧ Ms wad bi be bn ba N s ∧ wad.heap[q]? = some (.cells #[.int .u8 kK, .int .u32 I, .string Nm, .int .u32 C, .string xv] 208 (0, 0)) := ⟨HVda.out.c, HVda.out.m, HRda.out⟩
  refine take_at 0 10 (.pointer (some ⟨g, 0, none⟩)) rfl (by rfl) (by kernel_rfl) (by kernel_rfl) (by kernel_rfl) (fun _ _ _ h => h) (Or.inl ⟨by rfl, fun w' hSw => by obtain ⟨s0, s1, s2⟩ := hSw; go_simp⟩) hS ?_
  simp only [List.setIfInBounds_toArray, List.set_cons_zero, List.set_cons_succ]
  refine take_at 1 11 (.pointer (some ⟨g, 0, none⟩)) rfl (by rfl) (by kernel_rfl) (by kernel_rfl) (by kernel_rfl) (fun _ _ _ h => h) (Or.inl ⟨by rfl, fun w' hSw => by obtain ⟨s0, s1, s2⟩ := hSw; have c6 := s0.cells.2.2.2.1; go_simp⟩) hS ?_
  simp only [List.setIfInBounds_toArray, List.set_cons_zero, List.set_cons_succ]
  refine take_at 2 12 (.pointer (some ⟨g, 6, none⟩)) rfl (by rfl) (by kernel_rfl) (by kernel_rfl) (by kernel_rfl) (fun _ _ _ h => h) (Or.inl ⟨by rfl, fun w' hSw => by obtain ⟨s0, s1, s2⟩ := hSw; go_simp⟩) hS ?_
  simp only [List.setIfInBounds_toArray, List.set_cons_zero, List.set_cons_succ]
  refine take_at 3 13 (.map (some bi)) rfl (by rfl) (by kernel_rfl) (by kernel_rfl) (by kernel_rfl) (fun _ _ _ h => h) (Or.inl ⟨by rfl, fun w' hSw => by obtain ⟨s0, s1, s2⟩ := hSw; have c6 := s0.cells.2.2.2.1; go_simp⟩) hS ?_
  simp only [List.setIfInBounds_toArray, List.set_cons_zero, List.set_cons_succ]
  refine take_at 4 14 (.pointer (some ⟨q, 0, none⟩)) rfl (by rfl) (by kernel_rfl) (by kernel_rfl) (by kernel_rfl) (fun _ _ _ h => h) (Or.inl ⟨by rfl, fun w' hSw => by obtain ⟨s0, s1, s2⟩ := hSw; go_simp⟩) hS ?_
  simp only [List.setIfInBounds_toArray, List.set_cons_zero, List.set_cons_succ]
  refine take_at 5 15 (.pointer (some ⟨q, 1, none⟩)) rfl (by rfl) (by kernel_rfl) (by kernel_rfl) (by kernel_rfl) (fun _ _ _ h => h) (Or.inl ⟨by rfl, fun w' hSw => by obtain ⟨s0, s1, s2⟩ := hSw; go_simp⟩) hS ?_
  simp only [List.setIfInBounds_toArray, List.set_cons_zero, List.set_cons_succ]
  refine take_at 6 16 (.int .u32 I) rfl (by rfl) (by kernel_rfl) (by kernel_rfl) (by kernel_rfl) (fun _ _ _ h => h) (Or.inl ⟨by rfl, fun w' hSw => by obtain ⟨s0, s1, s2⟩ := hSw; have c1 : w'.cell? ⟨q, 1, none⟩ = some (.int .u32 I) := cell_of_row _ _ 1 _ _ _ s2; go_simp⟩) hS ?_
  simp only [List.setIfInBounds_toArray, List.set_cons_zero, List.set_cons_succ]
  refine take_at 7 17 (.tuple #[.agg #[.int .u8 nK, .int .u16 nM, .int .u32 nL, .int .u32 nS, .string nT], .bool th]) rfl (by rfl) (by kernel_rfl) (by kernel_rfl) (by kernel_rfl) (fun _ _ _ h => h) (Or.inl ⟨by rfl, fun w' hSw => by obtain ⟨s0, s1, s2⟩ := hSw; have hlk := HLK.out _ s1; go_simp⟩) hS ?_
  simp only [List.setIfInBounds_toArray, List.set_cons_zero, List.set_cons_succ]
  refine take_at 8 9 (.tuple #[.agg #[.int .u8 nK, .int .u16 nM, .int .u32 nL, .int .u32 nS, .string nT], .bool th]) rfl (by rfl) (by kernel_rfl) (by kernel_rfl) (by kernel_rfl) (fun _ _ _ h => h) (Or.inl ⟨by rfl, fun w' hSw => by obtain ⟨s0, s1, s2⟩ := hSw; go_simp⟩) hS ?_
  simp only [List.setIfInBounds_toArray, List.set_cons_zero, List.set_cons_succ]
  refine take_at 9 18 (.agg #[.int .u8 nK, .int .u16 nM, .int .u32 nL, .int .u32 nS, .string nT]) rfl (by rfl) (by kernel_rfl) (by kernel_rfl) (by kernel_rfl) (fun _ _ _ h => h) (Or.inl ⟨by rfl, fun w' hSw => by obtain ⟨s0, s1, s2⟩ := hSw; go_simp⟩) hS ?_
  simp only [List.setIfInBounds_toArray, List.set_cons_zero, List.set_cons_succ]
  refine take_at 10 19 (.bool th) rfl (by rfl) (by kernel_rfl) (by kernel_rfl) (by kernel_rfl) (fun _ _ _ h => h) (Or.inl ⟨by rfl, fun w' hSw => by obtain ⟨s0, s1, s2⟩ := hSw; go_simp⟩) hS ?_
  simp only [List.setIfInBounds_toArray, List.set_cons_zero, List.set_cons_succ]
  refine only_H 11 rfl (by kernel_rfl) (by rfl) (fun K hK => ?_)
  go_simp
  have hal : Below wad.heap.size wad (wad.alloc (.cells #[.int .u8 0, .int .u16 0, .int .u32 0, .int .u32 0, .string ⟨#[]⟩] 33)) := (Below.refl _ _).alloc (Nat.le_refl _) _
  have hva := HVda.out.go hal
  have hra := row_bel HRda.out hal (Array.getElem?_eq_some_iff.1 HRda.out).1
  have hnew := heap_alloc_new wad (.cells #[.int .u8 0, .int .u16 0, .int .u32 0, .int .u32 0, .string ⟨#[]⟩] 33)
  refine hK.out _ _ ⟨hva.c, hva.m, hra⟩ ?_
  clear hK K
  try simp only [Act.put, List.setIfInBounds_toArray, List.set_cons_zero, List.set_cons_succ]
  refine only_H 12 rfl (by kernel_rfl) (by rfl) (fun K hK => ?_)
  refine wp_store_row 33 (.tmp 5) (.tmp 18) rfl wad.heap.size #[.int .u8 nK, .int .u16 nM, .int .u32 nL, .int .u32 nS, .string nT] rfl rfl 33 #[.int .u8 0, .int .u16 0, .int .u32 0, .int .u32 0, .string ⟨#[]⟩] hnew (by kernel_rfl) rfl (row5 _ _ _ _ _) ?_
  have hset : Below wad.heap.size wad ((wad.alloc (.cells #[.int .u8 0, .int .u16 0, .int .u32 0, .int .u32 0, .string ⟨#[]⟩] 33)).setRow wad.heap.size #[.int .u8 nK, .int .u16 nM, .int .u32 nL, .int .u32 nS, .string nT]) := below_setRow hal (Nat.le_refl _) _
  have hrn := setRow_heap' (cs := #[.int .u8 nK, .int .u16 nM, .int .u32 nL, .int .u32 nS, .string nT]) hnew
  have HVwb := Lib.hid (HVda.out.go hset)
  have HRwb := Lib.hid (row_bel HRda.out hset (Array.getElem?_eq_some_iff.1 HRda.out).1)
  have HBwb := Lib.hid (HBda.out.trans (hset.mono (by have h1 := HBda.out.size; have h2 := HQQ.out; omega)))
  have HNwb := Lib.hid hrn
  have hS3 : _ ∧ _ ∧ _ := ⟨HVwb.out.c, HVwb.out.m, HRwb.out⟩
  refine hK.out _ _ hS3 ?_
  clear hK K hal hva hra hnew hset hrn hS HVda HRda HBda
  try simp only [Act.put, List.setIfInBounds_toArray, List.set_cons_zero, List.set_cons_succ]
  refine take_at 13 6 (.bool th) rfl (by rfl) (by kernel_rfl) (by kernel_rfl) (by kernel_rfl) (fun _ _ _ h => h) (Or.inl ⟨by rfl, fun w' hSw => by obtain ⟨s0, s1, s2⟩ := hSw; go_simp⟩) hS3 ?_
  simp only [List.setIfInBounds_toArray, List.set_cons_zero, List.set_cons_succ]
  refine wpAnyH_done (by kernel_rfl) ?_ _
  clear hS3
  generalize (wad.alloc (.cells #[.int .u8 0, .int .u16 0, .int .u32 0, .int .u32 0, .string ⟨#[]⟩] 33)).setRow wad.heap.size #[.int .u8 nK, .int .u16 nM, .int .u32 nL, .int .u32 nS, .string nT] = wb at *
  generalize wad.heap.size = nb at *
  cases th
  · have HE := Lib.hid (show true = q0 by
      rw [← HQ0.out]
      cases e : s.ino I with
      | none => rfl
      | some m => have := HTH.out; rw [e] at this; cases this)
    obtain rfl := HE.out
    go_wp2_with fail
    go_ret
    exact ⟨rfl, HBwb.out⟩
  · have HIN := Lib.hid (show s.ino I = some ⟨nK, nM, nL, nS, nT⟩ by
      cases e : s.ino I with
      | none => have := HTH.out; rw [e] at this; cases this
      | some m => have := HNN.out; rw [e] at this; rw [← this]; rfl)
    have hq1 := HQ0.out
    rw [HIN.out] at hq1
    dsimp only at hq1
    have HQ1 := Lib.hid hq1
    have HNL := Lib.hid (HVwb.out.m.ok.ino I _ HIN.out).1
    clear hq1 HQ0 HNN HTH HLK
    have p0 : wb.cell? ⟨q, 0, none⟩ = some (.int .u8 kK) := cell_of_row _ _ 0 _ _ _ HRwb.out
    by_cases k1 : kK = 1
    · subst k1
      have hq2 := HQ1.out
      rw [if_pos rfl] at hq2
      have HQ2 := Lib.hid hq2
      have p1 : wb.cell? ⟨q, 1, none⟩ = some (.int .u32 I) := cell_of_row _ _ 1 _ _ _ HRwb.out
      have n2 : wb.cell? ⟨nb, 2, none⟩ = some (.int .u32 nL) := cell_of_row _ _ 2 _ _ _ HNwb.out
      have c8 : wb.cell? ⟨g, 8, none⟩ = some (.map (some bn)) := HVwb.out.c.cells.2.2.2.2.2.1
      obtain ⟨F, hF, hFe⟩ := HVwb.out.m.n
      have hlk := lookN_d hF hI
      rw [← hFe I] at hlk
      have HNM := Lib.hid (HVwb.out.m.ok.nmd I)
      clear hq2 HQ1 hF hFe F
      by_cases i1 : I = 1
      · have e1 : ((I : Int) != 1) = false := by rw [bne, eqz1 (decide_eq_true i1)]; rfl
        have HE := Lib.hid (show false = q0 by rw [← HQ2.out, i1]; rfl)
        obtain rfl := HE.out
        clear i1
        go_wp2_with fail
        go_quiet (fail)
        have HB9 := Lib.hid (It.below_drewN HBwb.out nq)
        go_wp2
        go_ret
        exact ⟨rfl, HB9.out⟩
      · have e1 : ((I : Int) != 1) = true := by rw [bne, eqz1 (decide_eq_false i1)]; rfl
        have HE := Lib.hid (show decide (s.nmd I ≠ nL) = q0 by rw [← HQ2.out, decide_eq_true i1, Bool.true_and])
        have HE2 := Lib.hid (show (((s.nmd I : Nat) : Int) != (nL : Int)) = q0 by rw [← HE.out, bne, eqz rfl]; simp)
        clear i1 HE
        go_wp2_with fail
        go_still_tail 17, (by kernel_rfl)
        have HB9 := Lib.hid HBwb.out.drew
        change wpList _ _ _ _ _ wb.drew
        generalize wb.drew = wb9 at *
        go_wp2
        go_ret
        exact ⟨by rw [← HE2.out]; rfl, HB9.out⟩
    · have g1 : ((kK : Int) == 1) = false := eqz1 (decide_eq_false k1)
      by_cases k2 : kK = 2
      · subst k2
        have hq2 := HQ1.out
        rw [if_neg (by decide), if_pos rfl] at hq2
        have HQ2 := Lib.hid hq2
        have HKY := Lib.hid HKK.out
        obtain ⟨j, hj⟩ : ∃ j, (s.ent ⟨2, I, Nm, C⟩).getD 0 = j := ⟨_, rfl⟩
        have HJ := Lib.hid hj
        have hjl : j < 4294967296 := by
          rw [← hj]
          cases e : s.ent ⟨2, I, Nm, C⟩ with
          | none => exact (by decide : (0 : Nat) < 4294967296)
          | some c => exact HVwb.out.m.ok.ent _ _ e
        have HLE := Lib.hid (fun (wx : World) (h : Ms wx bi be bn ba N s) => (show (Instr.lookup 96 (.map (some be)) (.agg #[.int .u8 2, .int .u32 I, .string Nm, .int .u32 C]) false).run Tryz.prog wx = .ok (.int .u32 (j : Int)) wx by have := lookE h.e HKY.out; rw [hj] at this; exact this))
        obtain ⟨m, hm⟩ : ∃ m, (s.ino j).getD zIn = m := ⟨_, rfl⟩
        obtain ⟨th, hth⟩ : ∃ th, (s.ino j).isSome = th := ⟨_, rfl⟩
        obtain ⟨mK, mM, mL, mS, mT⟩ := m
        have HLJ := Lib.hid (fun (wx : World) (h : Ms wx bi be bn ba N s) => (show (Instr.lookup 95 (.map (some bi)) (.int .u32 (j : Int)) true).run Tryz.prog wx = .ok (.tuple #[.agg #[.int .u8 mK, .int .u16 mM, .int .u32 mL, .int .u32 mS, .string mT], .bool th]) wx by have := lookI_ok h.i hjl; rw [hm, hth] at this; exact this))
        rw [hj] at hq2
        have HQ3 := Lib.hid (show (decide (nK ≠ 1) || !th) = q0 by rw [← hq2, ← hth]; cases s.ino j <;> rfl)
        have HNR := Lib.hid HNwb.out
        clear hq2 HQ1 HQ2 hj hm hth g1
        have hnl : nb < wb.heap.size := (Array.getElem?_eq_some_iff.1 HNwb.out).1
        go_wp2_with fail
        have HNd := Lib.hid (show wb.drew.heap[nb]? = some (.cells #[.int .u8 nK, .int .u16 nM, .int .u32 nL, .int .u32 nS, .string nT] 33 (0, 0)) from HNwb.out)
        clear HNwb HNR p0
        have HVdwb := Lib.hid (HVwb.out.drew)
        have HRdwb := Lib.hid (show wb.drew.heap[q]? = some (.cells #[.int .u8 2, .int .u32 I, .string Nm, .int .u32 C, .string xv] 208 (0, 0)) from HRwb.out)
        have HBdwb := Lib.hid (HBwb.out.drew)
        refine wp_region_held_drew (S := fun w' : World => VC w' g it o1 o2 o3 rv pv (.map (some bi)) (.map (some be)) (.map (some bn)) (.map (some ba)) ∧ Ms w' bi be bn ba N s ∧ w'.heap[q]? = some (.cells #[.int .u8 2, .int .u32 I, .string Nm, .int .u32 C, .string xv] 208 (0, 0))) (by kernel_rfl) ⟨HVdwb.out.c, HVdwb.out.m, HRdwb.out⟩ (fun hHeld => ?_)
        clear hHeld HVwb HRwb HBwb
        generalize wb.drew = wbd at *
        have hS : VC wbd g it o1 o2 o3 rv pv (.map (some bi)) (.map (some be)) (.map (some bn)) (.map (some ba)) ∧ Ms wbd bi be bn ba N s ∧ wbd.heap[q]? = some (.cells #[.int .u8 2, .int .u32 I, .string Nm, .int .u32 C, .string xv] 208 (0, 0)) := ⟨HVdwb.out.c, HVdwb.out.m, HRdwb.out⟩
        refine take_at 0 47 (.pointer (some ⟨g, 0, none⟩)) rfl (by rfl) (by kernel_rfl) (by kernel_rfl) (by kernel_rfl) (fun _ _ _ h => h) (Or.inl ⟨by rfl, fun w' hSw => by obtain ⟨s0, s1, s2⟩ := hSw; go_simp⟩) hS ?_
        simp only [List.setIfInBounds_toArray, List.set_cons_zero, List.set_cons_succ]
        refine take_at 1 48 (.pointer (some ⟨g, 0, none⟩)) rfl (by rfl) (by kernel_rfl) (by kernel_rfl) (by kernel_rfl) (fun _ _ _ h => h) (Or.inl ⟨by rfl, fun w' hSw => by obtain ⟨s0, s1, s2⟩ := hSw; have c6 := s0.cells.2.2.2.1; go_simp⟩) hS ?_
        simp only [List.setIfInBounds_toArray, List.set_cons_zero, List.set_cons_succ]
        refine take_at 2 49 (.pointer (some ⟨g, 6, none⟩)) rfl (by rfl) (by kernel_rfl) (by kernel_rfl) (by kernel_rfl) (fun _ _ _ h => h) (Or.inl ⟨by rfl, fun w' hSw => by obtain ⟨s0, s1, s2⟩ := hSw; go_simp⟩) hS ?_
        simp only [List.setIfInBounds_toArray, List.set_cons_zero, List.set_cons_succ]
        refine take_at 3 50 (.map (some bi)) rfl (by rfl) (by kernel_rfl) (by kernel_rfl) (by kernel_rfl) (fun _ _ _ h => h) (Or.inl ⟨by rfl, fun w' hSw => by obtain ⟨s0, s1, s2⟩ := hSw; have c6 := s0.cells.2.2.2.1; go_simp⟩) hS ?_
        simp only [List.setIfInBounds_toArray, List.set_cons_zero, List.set_cons_succ]
        refine take_at 4 51 (.pointer (some ⟨g, 0, none⟩)) rfl (by rfl) (by kernel_rfl) (by kernel_rfl) (by kernel_rfl) (fun _ _ _ h => h) (Or.inl ⟨by rfl, fun w' hSw => by obtain ⟨s0, s1, s2⟩ := hSw; go_simp⟩) hS ?_
        simp only [List.setIfInBounds_toArray, List.set_cons_zero, List.set_cons_succ]
        refine take_at 5 52 (.pointer (some ⟨g, 0, none⟩)) rfl (by rfl) (by kernel_rfl) (by kernel_rfl) (by kernel_rfl) (fun _ _ _ h => h) (Or.inl ⟨by rfl, fun w' hSw => by obtain ⟨s0, s1, s2⟩ := hSw; have c6 := s0.cells.2.2.2.1; go_simp⟩) hS ?_
        simp only [List.setIfInBounds_toArray, List.set_cons_zero, List.set_cons_succ]
        refine take_at 6 53 (.pointer (some ⟨g, 7, none⟩)) rfl (by rfl) (by kernel_rfl) (by kernel_rfl) (by kernel_rfl) (fun _ _ _ h => h) (Or.inl ⟨by rfl, fun w' hSw => by obtain ⟨s0, s1, s2⟩ := hSw; go_simp⟩) hS ?_
        simp only [List.setIfInBounds_toArray, List.set_cons_zero, List.set_cons_succ]
        refine take_at 7 54 (.map (some be)) rfl (by rfl) (by kernel_rfl) (by kernel_rfl) (by kernel_rfl) (fun _ _ _ h => h) (Or.inl ⟨by rfl, fun w' hSw => by obtain ⟨s0, s1, s2⟩ := hSw; have c7 := s0.cells.2.2.2.2.1; go_simp⟩) hS ?_
        simp only [List.setIfInBounds_toArray, List.set_cons_zero, List.set_cons_succ]
        refine take_at 8 55 (.pointer (some ⟨q, 0, none⟩)) rfl (by rfl) (by kernel_rfl) (by kernel_rfl) (by kernel_rfl) (fun _ _ _ h => h) (Or.inl ⟨by rfl, fun w' hSw => by obtain ⟨s0, s1, s2⟩ := hSw; go_simp⟩) hS ?_
        simp only [List.setIfInBounds_toArray, List.set_cons_zero, List.set_cons_succ]
        refine take_at 9 56 (.agg #[.int .u8 2, .int .u32 I, .string Nm, .int .u32 C]) rfl (by rfl) (by kernel_rfl) (by kernel_rfl) (by kernel_rfl) (fun _ _ _ h => h) (Or.inl ⟨by rfl, fun w' hSw => by obtain ⟨s0, s1, s2⟩ := hSw; have c0 : w'.cell? ⟨q, 0, none⟩ = some (.int .u8 2) := cell_of_row _ _ 0 _ _ _ s2; have c1 : w'.cell? ⟨q, 1, none⟩ = some (.int .u32 I) := cell_of_row _ _ 1 _ _ _ s2; have c2 : w'.cell? ⟨q, 2, none⟩ = some (.string Nm) := cell_of_row _ _ 2 _ _ _ s2; have c3 : w'.cell? ⟨q, 3, none⟩ = some (.int .u32 C) := cell_of_row _ _ 3 _ _ _ s2; go_simp⟩) hS ?_
        simp only [List.setIfInBounds_toArray, List.set_cons_zero, List.set_cons_succ]
        refine take_at 10 57 (.int .u32 (j : Int)) rfl (by rfl) (by kernel_rfl) (by kernel_rfl) (by kernel_rfl) (fun _ _ _ h => h) (Or.inl ⟨by rfl, fun w' hSw => by obtain ⟨s0, s1, s2⟩ := hSw; have hlk := HLE.out _ s1; go_simp⟩) hS ?_
        simp only [List.setIfInBounds_toArray, List.set_cons_zero, List.set_cons_succ]
        refine take_at 11 58 (.tuple #[.agg #[.int .u8 mK, .int .u16 mM, .int .u32 mL, .int .u32 mS, .string mT], .bool th]) rfl (by rfl) (by kernel_rfl) (by kernel_rfl) (by kernel_rfl) (fun _ _ _ h => h) (Or.inl ⟨by rfl, fun w' hSw => by obtain ⟨s0, s1, s2⟩ := hSw; have hlk := HLJ.out _ s1; go_simp⟩) hS ?_
        simp only [List.setIfInBounds_toArray, List.set_cons_zero, List.set_cons_succ]
        refine take_at 12 46 (.tuple #[.agg #[.int .u8 mK, .int .u16 mM, .int .u32 mL, .int .u32 mS, .string mT], .bool th]) rfl (by rfl) (by kernel_rfl) (by kernel_rfl) (by kernel_rfl) (fun _ _ _ h => h) (Or.inl ⟨by rfl, fun w' hSw => by obtain ⟨s0, s1, s2⟩ := hSw; go_simp⟩) hS ?_
        simp only [List.setIfInBounds_toArray, List.set_cons_zero, List.set_cons_succ]
        refine take_at 13 59 (.agg #[.int .u8 mK, .int .u16 mM, .int .u32 mL, .int .u32 mS, .string mT]) rfl (by rfl) (by kernel_rfl) (by kernel_rfl) (by kernel_rfl) (fun _ _ _ h => h) (Or.inl ⟨by rfl, fun w' hSw => by obtain ⟨s0, s1, s2⟩ := hSw; go_simp⟩) hS ?_
        simp only [List.setIfInBounds_toArray, List.set_cons_zero, List.set_cons_succ]
        refine take_at 14 60 (.bool th) rfl (by rfl) (by kernel_rfl) (by kernel_rfl) (by kernel_rfl) (fun _ _ _ h => h) (Or.inl ⟨by rfl, fun w' hSw => by obtain ⟨s0, s1, s2⟩ := hSw; go_simp⟩) hS ?_
        simp only [List.setIfInBounds_toArray, List.set_cons_zero, List.set_cons_succ]
        refine only_H 15 rfl (by kernel_rfl) (by rfl) (fun K hK => ?_)
        go_simp
        have hal : Below wbd.heap.size wbd (wbd.alloc (.cells #[.int .u8 0, .int .u16 0, .int .u32 0, .int .u32 0, .string ⟨#[]⟩] 33)) := (Below.refl _ _).alloc (Nat.le_refl _) _
        have hva := HVdwb.out.go hal
        have hra := row_bel HRdwb.out hal (Array.getElem?_eq_some_iff.1 HRdwb.out).1
        have hnew := heap_alloc_new wbd (.cells #[.int .u8 0, .int .u16 0, .int .u32 0, .int .u32 0, .string ⟨#[]⟩] 33)
        refine hK.out _ _ ⟨hva.c, hva.m, hra⟩ ?_
        clear hK K
        try simp only [Act.put, List.setIfInBounds_toArray, List.set_cons_zero, List.set_cons_succ]
        refine only_H 16 rfl (by kernel_rfl) (by rfl) (fun K hK => ?_)
        refine wp_store_row 33 (.tmp 7) (.tmp 59) rfl wbd.heap.size #[.int .u8 mK, .int .u16 mM, .int .u32 mL, .int .u32 mS, .string mT] rfl rfl 33 #[.int .u8 0, .int .u16 0, .int .u32 0, .int .u32 0, .string ⟨#[]⟩] hnew (by kernel_rfl) rfl (row5 _ _ _ _ _) ?_
        have hset : Below wbd.heap.size wbd ((wbd.alloc (.cells #[.int .u8 0, .int .u16 0, .int .u32 0, .int .u32 0, .string ⟨#[]⟩] 33)).setRow wbd.heap.size #[.int .u8 mK, .int .u16 mM, .int .u32 mL, .int .u32 mS, .string mT]) := below_setRow hal (Nat.le_refl _) _
        have hrn := setRow_heap' (cs := #[.int .u8 mK, .int .u16 mM, .int .u32 mL, .int .u32 mS, .string mT]) hnew
        have HNc0 := Lib.hid (row_bel HNd.out hset (Array.getElem?_eq_some_iff.1 HNd.out).1)
        have HVwc := Lib.hid (HVdwb.out.go hset)
        have HRwc := Lib.hid (row_bel HRdwb.out hset (Array.getElem?_eq_some_iff.1 HRdwb.out).1)
        have HBwc := Lib.hid (HBdwb.out.trans (hset.mono (by have h1 := HBdwb.out.size; have h2 := HQQ.out; omega)))
        have HNwc := Lib.hid hrn
        have hS3 : _ ∧ _ ∧ _ := ⟨HVwc.out.c, HVwc.out.m, HRwc.out⟩
        refine hK.out _ _ hS3 ?_
        clear hK K hal hva hra hnew hset hrn hS HVdwb HRdwb HBdwb
        try simp only [Act.put, List.setIfInBounds_toArray, List.set_cons_zero, List.set_cons_succ]
        refine take_at 17 8 (.bool th) rfl (by rfl) (by kernel_rfl) (by kernel_rfl) (by kernel_rfl) (fun _ _ _ h => h) (Or.inl ⟨by rfl, fun w' hSw => by obtain ⟨s0, s1, s2⟩ := hSw; go_simp⟩) hS3 ?_
        simp only [List.setIfInBounds_toArray, List.set_cons_zero, List.set_cons_succ]
        refine wpAnyH_done (by kernel_rfl) ?_ _
        clear hS3
        have HNc := Lib.hid HNc0.out
        clear HNc0 HNd
        generalize (wbd.alloc (.cells #[.int .u8 0, .int .u16 0, .int .u32 0, .int .u32 0, .string ⟨#[]⟩] 33)).setRow wbd.heap.size #[.int .u8 mK, .int .u16 mM, .int .u32 mL, .int .u32 mS, .string mT] = wc at *
        generalize wbd.heap.size = nc at *
        clear HLE HLJ
        have n0 : wc.cell? ⟨nb, 0, none⟩ = some (.int .u8 nK) := cell_of_row _ _ 0 _ _ _ HNc.out
        by_cases i1 : nK = 1
        · have e1 : ((nK : Int) != 1) = false := by rw [bne, eqz1 (decide_eq_true i1)]; rfl
          have HE := Lib.hid (show (!th) = q0 by rw [← HQ3.out, i1]; rfl)
          clear i1
          cases th
          · go_wp2_with fail
            go_ret
            exact ⟨by rw [← HE.out]; rfl, HBwc.out⟩
          · go_wp2_with fail
            go_ret
            exact ⟨by rw [← HE.out]; rfl, HBwc.out⟩
        · have e1 : ((nK : Int) != 1) = true := by rw [bne, eqz1 (decide_eq_false i1)]; rfl
          have HE := Lib.hid (show true = q0 by rw [← HQ3.out, decide_eq_true i1]; rfl)
          clear i1
          go_wp2_with fail
          go_ret
          exact ⟨by rw [← HE.out]; rfl, HBwc.out⟩
      · have g2 : ((kK : Int) == 2) = false := eqz2 (decide_eq_false k2)
        by_cases k3 : kK = 3
        · subst k3
          have hq2 := HQ1.out
          rw [if_neg (by decide), if_neg (by decide), if_pos rfl] at hq2
          have HQ2 := Lib.hid hq2
          have n0 : wb.cell? ⟨nb, 0, none⟩ = some (.int .u8 nK) := cell_of_row _ _ 0 _ _ _ HNwb.out
          have n3 : wb.cell? ⟨nb, 3, none⟩ = some (.int .u32 nS) := cell_of_row _ _ 3 _ _ _ HNwb.out
          have p3 : wb.cell? ⟨q, 3, none⟩ = some (.int .u32 C) := cell_of_row _ _ 3 _ _ _ HRwb.out
          have p4 : wb.cell? ⟨q, 4, none⟩ = some (.string xv) := cell_of_row _ _ 4 _ _ _ HRwb.out
          clear hq2 HQ1 g1 g2
          by_cases i1 : nK = 2
          · have e1 : ((nK : Int) != 2) = false := by rw [bne, eqz2 (decide_eq_true i1)]; rfl
            have hx : xv.size ≤ 160 := HSZ.out
            have hnl : nS < 4294967296 := HNL.out.2.2.2
            have w1 : IntKind.i64.wrap (nS : Int) = (nS : Int) := IntWalk.i64_in _ ⟨by omega, by omega⟩
            have w2 : IntKind.i64.wrap (C : Int) = (C : Int) := IntWalk.i64_in _ ⟨by omega, by omega⟩
            have w3 : IntKind.i64.wrap ((C : Int) * 128) = (C : Int) * 128 := IntWalk.i64_in _ ⟨by omega, by omega⟩
            have w4 : IntKind.i64.wrap ((C : Int) * 128 + (xv.size : Int)) = (C : Int) * 128 + (xv.size : Int) := IntWalk.i64_in _ ⟨by omega, by omega⟩
            have HE := Lib.hid (show decide ((nS : Int) < (C : Int) * 128 + (xv.size : Int)) = q0 by rw [← HQ2.out, i1, show decide ((2 : Nat) ≠ 2) = false from rfl, Bool.false_or]; apply decide_eq_decide.2; omega)
            clear i1 hx hnl
            go_wp2_with fail
            go_ret
            exact ⟨by rw [← HE.out]; rfl, HBwb.out⟩
          · have e1 : ((nK : Int) != 2) = true := by rw [bne, eqz2 (decide_eq_false i1)]; rfl
            have HE := Lib.hid (show true = q0 by rw [← HQ2.out, decide_eq_true i1]; rfl)
            clear i1
            go_wp2_with fail
            go_ret
            exact ⟨by rw [← HE.out]; rfl, HBwb.out⟩
        · have g3 : ((kK : Int) == 3) = false := eqz3 (decide_eq_false k3)
          have hq2 := HQ1.out
          rw [if_neg k1, if_neg k2, if_neg k3] at hq2
          have HQ2 := Lib.hid hq2
          clear hq2 HQ1
          go_wp2_with fail
          go_ret
          exact ⟨by rw [← HQ2.out]; rfl, HBwb.out⟩
end Go.Proofs.YtjkmfonngbendaaGreatDoor.Di
/- Contract of slices.ContainsFunc with the method value strays. -/
namespace Go.Proofs.YtjkmfonngbendaaGreatDoor.Di
set_option linter.unusedVariables false
set_option linter.unusedSimpArgs false
set_option maxRecDepth 100000
open Go.ChangeShapes Go.WideShapes Go.ChangeAt Go.RowKit
open BigFrame
open Ar Rg
open Ino
variable {w w' : World} {g bi be bn ba N bb : Nat} {it o1 o2 o3 rv pv m1 m2 m3 m4 v : Value} {s s' : Vo} {ps : List Pt}
/-- a part whose numbers are no greater than may be -/
def PtOk (p : Pt) : Prop := p.k.lim ∧ kokK p.k ∧ p.v.size ≤ 160 ∧ p.k.C < 512
theorem row_at {b o : Nat} {p : Pt} {A : Option Addr} (hr : w.rangeAt b o (encP p)) : w.cell? ⟨b, o, none⟩ = some (.int .u8 p.k.K) ∧ w.cell? ⟨b, o + 1, none⟩ = some (.int .u32 p.k.I) ∧ w.cell? ⟨b, o + 2, none⟩ = some (.string p.k.N) ∧ w.cell? ⟨b, o + 3, none⟩ = some (.int .u32 p.k.C) ∧ w.cell? ⟨b, o + 4, none⟩ = some (.string p.v) :=
  ⟨hr 0 _ rfl, hr 1 _ rfl, hr 2 _ rfl, hr 3 _ rfl, hr 4 _ rfl⟩
theorem any_take {ps : List Pt} {f : Pt → Bool} {i : Nat} {p : Pt} (hp : ps[i]? = some p) (h : ∀ x ∈ ps.take i, f x = false) (h2 : f p = false) : ∀ x ∈ ps.take (i + 1), f x = false := by
  intro x hx
  rw [List.take_add_one, hp] at hx
  rcases List.mem_append.1 hx with h3 | h3
  · exact h x h3
  · obtain rfl : x = p := by simpa using h3
    exact h2
def IxPost (b : Bool) (w : World) (e : Ending) (w' : World) : Prop := (∃ j : Int, e = .returned (.int .i64 j) ∧ decide (0 ≤ j) = b) ∧ Below w.heap.size w w'
set_option maxHeartbeats 2000000 in
theorem indexFunc_any (hV : VW w g bi be bn ba N it o1 o2 o3 rv pv s) (A : Option Addr) (n c : Nat) (hn : n = ps.length) (hm : n ≤ 1048576) (hL : Ls encP 5 w w.heap.size A ps) (hok : ∀ p ∈ ps, PtOk p) :
    Calls Tryz.prog 179 #[.slice A n c, .func (.func 135) #[.pointer (some ⟨g, 0, none⟩)] #[]] w (IxPost (ps.any (stray s)) w) := by
  have HN := Lib.hid hn
  have HL := Lib.hid hL
  have HOK := Lib.hid hok
  have HV := Lib.hid hV
  clear hn hL hok hV
  go_enter Tryz.func179, Tryz.ntmps179
  go_wp2_with fail
  go_loopw [8] (fun v wr => ∃ i : Nat, i ≤ n ∧ v = .int .i64 i ∧ Hid (∀ x ∈ ps.take i, stray s x = false) ∧ Hid (Below w.heap.size w wr)) (fun v _ => n - (intOf v).toNat)
  case atStart => exact ⟨0, Nat.zero_le _, by go_num, fun x hx => (by cases hx), Below.refl _ _⟩
  case round =>
    obtain ⟨i, hi, rfl, ha, hb⟩ := hrel
    have HA := Lib.hid (Hid.out ha)
    have HB := Lib.hid (Hid.out hb)
    clear ha hb
    by_cases hlt : i < n
    · obtain ⟨p, hp⟩ : ∃ p, ps[i]? = some p := ⟨_, List.getElem?_eq_getElem (by rw [← HN.out]; exact hlt)⟩
      obtain ⟨b, o, hAe, hbs, hr⟩ := (HL.out.below HB.out) i p hp
      obtain ⟨r0, r1, r2, r3, r4⟩ := row_at (A := A) hr
      have hpo := HOK.out p (List.mem_of_getElem? hp)
      have HC := Lib.hid (strays_any p (HV.out.go HB.out) hpo.1 hpo.2.1 hpo.2.2.1 hpo.2.2.2)
      have HAT := Lib.hid (fun h => any_take hp HA.out h)
      have HMP := Lib.hid (List.mem_of_getElem? hp)
      clear hr hp hpo
      subst hAe
      obtain ⟨q, hq⟩ : ∃ q, stray s p = q := ⟨_, rfl⟩
      rw [hq] at HC
      have HQ := Lib.hid hq
      clear hq
      obtain ⟨⟨K, I, Nm, C⟩, xv⟩ := p
      dsimp only at r0 r1 r2 r3 r4
      unfold vP at HC
      dsimp only [encP] at HC
      cases q
      · go_wp2_with (go_at_call 135; refine HC.out.mono ?_; rintro e w1 ⟨rfl, hb⟩; have HB1 := Lib.hid (HB.out.trans (hb.mono HB.out.size)); clear hb)
        exact ⟨⟨i + 1, by omega, by go_num, HAT.out HQ.out, HB1.out⟩, by simp [intOf] <;> omega⟩
      · go_wp2_with (go_at_call 135; refine HC.out.mono ?_; rintro e w1 ⟨rfl, hb⟩; have HB1 := Lib.hid (HB.out.trans (hb.mono HB.out.size)); clear hb)
        go_ret
        exact ⟨⟨i, rfl, by rw [List.any_eq_true.2 ⟨_, HMP.out, HQ.out⟩]; exact decide_eq_true (by omega)⟩, HB1.out⟩
    · have hin : i = n := by omega
      have HT := Lib.hid (show ps.any (stray s) = false by
        rw [Bool.eq_false_iff]
        intro h
        obtain ⟨x, hx, h2⟩ := List.any_eq_true.1 h
        have h3 := HA.out
        rw [hin, HN.out, List.take_length] at h3
        rw [h3 x hx] at h2
        cases h2)
      go_wp2
      go_ret
      exact ⟨⟨-1, rfl, by rw [HT.out]; rfl⟩, HB.out⟩
theorem containsFunc_any (hV : VW w g bi be bn ba N it o1 o2 o3 rv pv s) (A : Option Addr) (n c : Nat) (hn : n = ps.length) (hm : n ≤ 1048576) (hL : Ls encP 5 w w.heap.size A ps) (hok : ∀ p ∈ ps, PtOk p) :
    Calls Tryz.prog 134 #[.slice A n c, .func (.func 135) #[.pointer (some ⟨g, 0, none⟩)] #[]] w fun e w' => e = .returned (.bool (ps.any (stray s))) ∧ Below w.heap.size w w' := by
  have HC := Lib.hid (indexFunc_any hV A n c hn hm hL hok)
  clear hV hn hL hok
  generalize ps.any (stray s) = q at *
  go_enter Tryz.func134, Tryz.ntmps134
  go_wp2_with (go_at_call 179; refine HC.out.mono ?_; rintro e w1 ⟨⟨j, rfl, hj⟩, hb⟩; have HJ := Lib.hid hj; have HB := Lib.hid hb; clear hj hb)
  go_ret
  exact ⟨by rw [← HJ.out]; rfl, HB.out⟩
end Go.Proofs.YtjkmfonngbendaaGreatDoor.Di
/- Contract of package dirs' climb. -/
namespace Go.Proofs.YtjkmfonngbendaaGreatDoor.Di
set_option linter.unusedVariables false
set_option linter.unusedSimpArgs false
set_option maxRecDepth 100000
open Go.ChangeShapes Go.WideShapes Go.ChangeAt Go.RowKit
open BigFrame
open Ar Rg
open Ino
variable {w w' wr : World} {g bi be bn ba bu N M bb : Nat} {it o1 o2 o3 rv pv m1 m2 m3 m4 v : Value} {s s' : Vo} {ps : List Pt} {U : Nat → Option Unit}
def encU (j : Nat) : List Value := [.int .u32 (j : Int)]
theorem encU_len (j : Nat) : (encU j).length = 1 := rfl
theorem encU_one (j : Nat) : ∀ u ∈ encU j, u.oneCell' = true := by
  intro u hu
  obtain rfl : u = .int .u32 (j : Int) := by simpa [encU] using hu
  rfl
theorem infoU : (Tryz.prog.info? 22).map (fun i => (i.zero, i.size, i.bytes)) = some (some (.int .u32 0), 1, 4) := by kernel_rfl
abbrev MkU (w wr : World) (v : Value) (D : List Nat) : Prop := Mk encU 1 22 w wr v D
theorem catU {ops : Array Oper} {rest : List Oper} {o : Oper} {a : Act} {Q : Exit → Act → World → Prop} {D : List Nat} (hM : MkU w wr v D) (E : List Nat) (A : Option Addr) (m c : Nat) {B : Nat} (hm : m = E.length) (hL : Ls encU 1 wr B A E) (hlen : D.length + m ≤ 1099511627776)
    (hgd : o.guard = none) (s x : Operand) (ho : o.op = .call { callee := .builtin .append, args := #[s, x], argTypes := #[261, 261] }) (hs : a.eval s = v) (hx : a.eval x = .slice A m c)
    (h : ∀ v' w', MkU w w' v' (D ++ E) → wr.grownBy w' v.ownBlock → wpList Tryz.prog ops Q rest (a.put o.dst v') w') : wpList Tryz.prog ops Q (o :: rest) a wr := by
  obtain ⟨i0, hi, hz0, hz1, hz2⟩ := info_parts infoU
  exact wpList_cat 261 i0 _ 4 Tryz.underlying261 hi hz0 hz1 hz2 rfl (by decide) encU_len encU_one hM m c hm hL (by unfold maxLen; omega) (by omega) hgd s x ho hs hx h
theorem newU (w : World) (x : Nat) (e : TypeId) (k B : Nat) (hk : w.heap.size = k) (hB : k < B) : Ls encU 1 (w.alloc (.cells #[.int .u32 (x : Int)] e)) B (some ⟨k, 0, none⟩) [x] := by
  subst hk
  exact Ls.new w x e B hB
/-- what is known to be under the root -/
def Known (s : Vo) (U : Nat → Option Unit) : Prop := (U 1).isSome = true ∧ ∀ j, (U j).isSome = true → Up s j
noncomputable def upB (s : Vo) (i : Nat) : Bool := @decide (Up s i) (Classical.propDecidable _)
theorem upB_yes {s : Vo} {i : Nat} (h : Up s i) : upB s i = true := by unfold upB; exact @decide_eq_true _ (Classical.propDecidable _) h
theorem upB_no {s : Vo} {i : Nat} (h : ¬ Up s i) : upB s i = false := by unfold upB; exact @decide_eq_false _ (Classical.propDecidable _) h
def way (s : Vo) (i t : Nat) : List Nat := (List.range t).map fun k => up s k i
theorem way_len (s : Vo) (i t : Nat) : (way s i t).length = t := by simp [way]
theorem way_snoc (s : Vo) (i t : Nat) : way s i (t + 1) = way s i t ++ [up s t i] := by unfold way; rw [List.range_succ, List.map_append]; rfl
theorem way_at (s : Vo) (i t k : Nat) (h : k < t) : (way s i t)[k]? = some (up s k i) := by simp [way, h]
/-- what is known besides, behind the way's first k -/
def addW (U : Nat → Option Unit) (W : List Nat) (k : Nat) (j : Nat) : Option Unit := if j ∈ W.take k then some () else U j
theorem addW_zero (U : Nat → Option Unit) (W : List Nat) : addW U W 0 = U := by funext j; unfold addW; rw [List.take_zero, if_neg (by simp)]
theorem addW_same (U : Nat → Option Unit) {W : List Nat} {k x : Nat} (h : W[k]? = some x) : addW U W (k + 1) x = some () := by
  unfold addW
  rw [List.take_add_one, h, if_pos (by simp)]
theorem addW_ne (U : Nat → Option Unit) {W : List Nat} {k x : Nat} (h : W[k]? = some x) (z : Nat) (hz : z ≠ x) : addW U W (k + 1) z = addW U W k z := by
  unfold addW
  rw [List.take_add_one, h]
  by_cases e : z ∈ W.take k
  · rw [if_pos e, if_pos (List.mem_append_left _ e)]
  · rw [if_neg e, if_neg (by
      intro h2
      rcases List.mem_append.1 h2 with h3 | h3
      · exact e h3
      · exact hz (by simpa using h3))]
theorem known_add {i t : Nat} (h : Known s U) (hu : (U (up s t i)).isSome = true) : Known s (addW U (way s i t) t) := by
  have key : ∀ k, k ≤ t → Up s (up s k i) := fun k hk => by
    have h1 := h.2 _ hu
    have e : up s t i = up s (t - k) (up s k i) := by rw [← up_add, Nat.sub_add_cancel hk]
    rw [e] at h1
    exact Up.of_up h1
  refine ⟨?_, fun j hj => ?_⟩
  · unfold addW
    split
    · rfl
    · exact h.1
  · unfold addW at hj
    split at hj
    · rename_i hm
      rw [List.take_of_length_le (by rw [way_len]; exact Nat.le_refl _)] at hm
      obtain ⟨k, hk, rfl⟩ := List.mem_map.1 hm
      exact key k (Nat.le_of_lt (List.mem_range.1 hk))
    · exact h.2 j hj
def slN : Value → Nat
  | .slice _ m _ => m
  | _ => 0
def ClPost (s : Vo) (bu M N i : Nat) (w : World) (e : Ending) (w' : World) : Prop := e = .returned (.bool (upB s i)) ∧ (upB s i = true → ∃ U' M', M' ≤ M + N ∧ mU.At w' bu M' U' ∧ Known s U') ∧ Off (fun j => j = bu) w w'
set_option maxHeartbeats 2000000 in
theorem climb_any (hV : VW w g bi be bn ba N it o1 o2 o3 rv pv s) (hN : N ≤ 4194304) (hch : Chn s) (hkey : ∀ j, (s.ino j).isSome = true → j < 4294967296) (i : Nat) (hi : i < 4294967296) (hk : kind s i = 1) (hU : mU.At w bu M U) (hKn : Known s U) (hM : M ≤ 35184372088832) (hbu : ba < bu) :
    Calls Tryz.prog 180 #[.pointer (some ⟨g, 0, none⟩), .int .u32 (i : Int), .map (some bu)] w (ClPost s bu M N i w) := by
  obtain ⟨n, hn, hlen, hnd⟩ := hV.m.i.len
  have HLEN := Lib.hid hlen
  have HSOON := Lib.hid (fun (h : Up s i) => up_soon hch (N := n) (fun ks h1 h2 => hnd ks h1 (fun j hj => ⟨hkey j (h2 j hj), h2 j hj⟩)) hk h)
  have HV := Lib.hid hV
  have HU := Lib.hid hU
  have HKN := Lib.hid hKn
  have HUP := Lib.hid (show ∀ t, up s t i < 4294967296 from fun t => by
    cases t with
    | zero => exact hi
    | succ t => rw [up_succ]; exact hV.m.ok.abv _)
  have HUL := Lib.hid hU.lt
  clear hlen hnd hV hU hKn hkey hch hk hi
  go_enter Tryz.func180, Tryz.ntmps180
  go_wp2_with fail
  go_loopw [1, 7] (fun v1 v7 wr => ∃ (t : Nat), t ≤ n ∧ v1 = .int .u32 (up s t i : Nat) ∧ Hid (MkU w wr v7 (way s i t)) ∧ Hid (∀ k, k < t → U (up s k i) = none)) (fun _ v7 _ => n - slN v7)
  case atStart => exact ⟨0, Nat.zero_le _, rfl, Mk.nil (Below.refl _ _), fun k hk => by omega⟩
  case round =>
    obtain ⟨t, ht, rfl, hm, hu⟩ := hrel
    have HM := Lib.hid (Hid.out hm)
    have HF := Lib.hid (Hid.out hu)
    clear hm hu
    obtain ⟨A, c, hv, h1, h2, hl⟩ := HM.out.ls encU_len
    rw [way_len] at hv h1
    subst hv
    have HLS := Lib.hid hl
    have HC1 := Lib.hid h1
    clear hl h1 h2
    have hlk := lookU_ok (HU.out.go HUL.out HM.out.2) (HUP.out t)
    have HV1 := Lib.hid (HV.out.go HM.out.2)
    have hal : Below wr.heap.size wr (wr.alloc (.cells #[] 83)) := (Below.refl _ _).alloc (Nat.le_refl _) _
    have HVa := Lib.hid (HV1.out.go hal)
    have HMa := Lib.hid (HM.out.alloc (.cells #[] 83))
    have c6 : (wr.alloc (.cells #[] 83)).cell? ⟨g, 6, none⟩ = some (.map (some bi)) := HVa.out.c.cells.2.2.2.1
    have hle : ∀ ty, (Builtin.len_ #[95] ty #[.map (some bi)]).run Tryz.prog (wr.alloc (.cells #[] 83)) = .ok (.int .i64 (n : Nat)) (wr.alloc (.cells #[] 83)) := HLEN.out _ ((HM.out.2.trans (hal.mono HM.out.2.size)).block bi (HV.out.m.xlt _ (.inl rfl)))
    have hza : (wr.alloc (.cells #[] 83)).heap.size = wr.heap.size + 1 := by simp
    have HZA := Lib.hid hza
    clear hal hza HV1
    cases hq : (U (up s t i)).isSome
    · rw [hq] at hlk
      have HQ := Lib.hid (show U (up s t i) = none by cases e : U (up s t i) with | none => rfl | some x => rw [e] at hq; cases hq)
      clear hq
      by_cases htn : t = n
      · have e1 : ((t : Int) == (n : Int)) = true := eqz (decide_eq_true htn)
        have HTN := Lib.hid htn
        clear htn
        go_wp2_with fail
        go_ret
        have hno : upB s i = false := upB_no fun h => by
          obtain ⟨k, hk, h1⟩ := HSOON.out h
          have h2 := HF.out k (by have := HTN.out; omega)
          rw [h1] at h2
          have h3 := HKN.out.1
          rw [h2] at h3
          cases h3
        exact ⟨by rw [hno]; rfl, fun h => by (rw [hno] at h; cases h), Off.of_below HMa.out.2⟩
      · have e1 : ((t : Int) == (n : Int)) = false := eqz (decide_eq_false htn)
        have hlt : t < n := by omega
        have HLT := Lib.hid hlt
        have HFS := Lib.hid (show ∀ k, k < t + 1 → U (up s k i) = none from fun k hk => by
          by_cases e : k = t
          · rw [e]; exact HQ.out
          · exact HF.out k (by omega))
        obtain ⟨x, hx⟩ : ∃ x, up s t i = x := ⟨_, rfl⟩
        have HMb := Lib.hid (HMa.out.alloc (.cells #[.int .u32 (x : Int)] 22))
        have HNL := Lib.hid (newU (wr.alloc (.cells #[] 83)) x 22 (wr.heap.size + 1) (wr.heap.size + 2) HZA.out (Nat.lt_succ_self _))
        have HX := Lib.hid hx
        have HXL := Lib.hid (show x < 4294967296 by rw [← hx]; exact HUP.out t)
        rw [hx] at hlk ⊢
        clear htn hlt hx HQ
        go_wp2_with (refine catU HMb.out [x] _ 1 1 rfl HNL.out (by rw [way_len]; omega) rfl _ _ rfl rfl rfl ?_; intro v2 w2 hm2 hg2; have HM2 := Lib.hid (show MkU w w2 v2 (way s i (t + 1)) by rw [way_snoc, HX.out]; exact hm2); have HV2 := Lib.hid (HV.out.go hm2.2); have c9 : w2.cell? ⟨g, 9, none⟩ = some (.map (some ba)) := HV2.out.c.cells.2.2.2.2.2.2; obtain ⟨G, hG, hGe⟩ := HV2.out.m.a; have hlk2 := lookN hG HXL.out; rw [← hGe x] at hlk2; clear hm2 hg2 hG hGe)
        have hs2 : slN v2 = t + 1 := by
          obtain ⟨A2, c2, hv2, _⟩ := HM2.out.ls encU_len
          rw [hv2, way_len]; rfl
        exact ⟨⟨t + 1, by have := HLT.out; omega, by rw [up_succ, HX.out], HM2.out, HFS.out⟩, by have := HLT.out; simp only [slN] at hs2 ⊢; omega⟩
    · rw [hq] at hlk
      have HK2 := Lib.hid (known_add HKN.out hq)
      have HYES := Lib.hid (show upB s i = true from upB_yes (Up.of_up (k := t) (HKN.out.2 _ hq)))
      clear hq
      have HLa := Lib.hid (show Ls encU 1 (wr.alloc (.cells #[] 83)) (wr.alloc (.cells #[] 83)).heap.size A (way s i t) by
        obtain ⟨A', c', e, _, _, hl⟩ := HMa.out.ls encU_len
        have e2 := (Value.slice.inj e).1
        rw [e2]; exact hl)
      have HBA := Lib.hid (show ∀ b o, A = some ⟨b, o, none⟩ → bu ≠ b from fun b o e h => by
        have h1 := (HMa.out.1.lt b (by rw [e]; rfl)).1
        have h2 := HUL.out
        omega)
      have HOa := Lib.hid (Off.of_below (X := fun j => j = bu) HMa.out.2)
      have HUa := Lib.hid (HU.out.go HUL.out HMa.out.2)
      clear HF HM HLS HC1 HVa HZA HMa c6 hle
      go_wp2_with fail
      clear hlk
      generalize wr.alloc (.cells #[] 83) = wa at *
      obtain ⟨wr0, hwr0⟩ : ∃ w0, w0 = wr := ⟨_, rfl⟩
      subst hwr0
      go_loopw [39] (fun v wr => ∃ (k : Nat), k ≤ t ∧ v = .int .i64 k ∧ Hid (mU.At wr bu (M + k) (addW U (way s i t) k)) ∧ Hid (Off (fun j => j = bu) wa wr)) (fun v _ => t - (intOf v).toNat)
      case atStart => exact ⟨0, Nat.zero_le _, by go_num, by rw [addW_zero]; exact HUa.out, Off.refl _ _⟩
      case round =>
        obtain ⟨k, hk, rfl, hu, ho⟩ := hrel
        have HU2 := Lib.hid (Hid.out hu)
        have HO2 := Lib.hid (Hid.out ho)
        clear hu ho
        by_cases hlt : k < t
        · have hx := way_at s i t k hlt
          obtain ⟨b, o, hAe, hbs, hr⟩ := HLa.out k _ hx
          have e0 : wr.cell? ⟨b, o + k, none⟩ = some (.int .u32 (up s k i : Nat)) := by
            have h1 := hr 0 _ rfl
            rw [Nat.mul_one, Nat.add_zero] at h1
            exact (World.cell?_of_block (a := ⟨b, _, none⟩) (HO2.out.block b hbs (fun e => HBA.out b o hAe e.symm))).trans h1
          have HW := Lib.hid hx
          have HXL := Lib.hid (HUP.out k)
          clear hr hx hbs
          subst hAe
          generalize up s k i = x at *
          go_wp2_with (refine Mq.wpList_put mU rfl _ _ _ (.inl rfl) bu (M + k) _ (addW U (way s i t) (k + 1)) rfl HU2.out (by unfold maxLen; omega) x HXL.out rfl () rfl (addW_same U HW.out) (addW_ne U HW.out) ?_; intro w4 ha hg; have HU4 := Lib.hid ha; have HO4 := Lib.hid (HO2.out.trans (Off.of_grown (X := fun j => j = bu) hg rfl)); clear ha hg)
          exact ⟨⟨k + 1, by omega, by go_num, HU4.out, HO4.out⟩, by simp [intOf] <;> omega⟩
        · have hkt : k = t := by omega
          subst hkt
          go_wp2
          go_ret
          exact ⟨by rw [HYES.out]; rfl, fun _ => ⟨_, _, by omega, HU2.out, HK2.out⟩, HOa.out.trans HO2.out⟩
end Go.Proofs.YtjkmfonngbendaaGreatDoor.Di
/- Contract of package dirs' allUnderRoot. -/
namespace Go.Proofs.YtjkmfonngbendaaGreatDoor.Di
set_option linter.unusedVariables false
set_option linter.unusedSimpArgs false
set_option maxRecDepth 100000
open Go.ChangeShapes Go.WideShapes Go.ChangeAt Go.RowKit
open BigFrame
open Ar Rg
open Ino
variable {w w' wr : World} {g bi be bn ba bu N M bb : Nat} {it o1 o2 o3 rv pv m1 m2 m3 m4 v : Value} {s s' : Vo} {ps : List Pt} {U : Nat → Option Unit}
noncomputable def allB (s : Vo) : Bool := @decide (AllUp s) (Classical.propDecidable _)
theorem allB_yes {s : Vo} (h : AllUp s) : allB s = true := by unfold allB; exact @decide_eq_true _ (Classical.propDecidable _) h
theorem allB_no {s : Vo} (h : ¬ AllUp s) : allB s = false := by unfold allB; exact @decide_eq_false _ (Classical.propDecidable _) h
theorem upB_up {s : Vo} {i : Nat} (h : upB s i = true) : Up s i := by unfold upB at h; exact @of_decide_eq_true _ (Classical.propDecidable _) h
theorem upB_not {s : Vo} {i : Nat} (h : upB s i = false) : ¬ Up s i := fun h2 => by rw [upB_yes h2] at h; cases h
theorem wpList_nextI {ops : Array Oper} {rest : List Oper} {o : Oper} {a : Act} {Q : Exit → Act → World → Prop} (hg : o.guard = none) (it : Operand) (hop : o.op = Op.next it false) (b r n : Nat) (F : Nat → Option In) (left : Nat → Bool) (cnt : Nat)
    (hit : a.eval it = .pointer (some ⟨r, 0, none⟩)) (h : mI.Rng w b r n F left cnt)
    (hDone : cnt = 0 → (∀ x, x < 4294967296 → left x = false) → wpList Tryz.prog ops Q rest (a.put o.dst (.tuple #[.bool false])) w)
    (hMore : ∀ (x nK nM nL nS : Nat) (nT : ByteArray) (w' : World) (cnt' : Nat), x < 4294967296 → F x = some ⟨nK, nM, nL, nS, nT⟩ → mI.Rng w' b r n F (fun y => left y && decide (y ≠ x)) cnt' → cnt' < cnt → w.grownBy w' (some r) → w'.heap.size = w.heap.size →
      (Instr.entry (.pointer (some ⟨r, 0, none⟩))).run Tryz.prog w' = .ok (.tuple #[.int .u32 (x : Int), .agg #[.int .u8 nK, .int .u16 nM, .int .u32 nL, .int .u32 nS, .string nT]]) w' → wpList Tryz.prog ops Q rest (a.put o.dst (.tuple #[.bool true, .int .u32 (x : Int), .agg #[.int .u8 nK, .int .u16 nM, .int .u32 nL, .int .u32 nS, .string nT]])) w') : wpList Tryz.prog ops Q (o :: rest) a w :=
  Mq.wpList_nextM mI hg it hop allU b r n F left cnt hit h hDone fun x c w' cnt' hx hl hF hr hlt hg hs hen => by
    obtain ⟨nK, nM, nL, nS, nT⟩ := c
    exact hMore x nK nM nL nS nT w' cnt' hx hF hr hlt hg hs hen
theorem known_root (s : Vo) : Known s (fun j => if j = 1 then some () else none) := ⟨rfl, fun j hj => by
  dsimp only at hj
  split at hj
  · rename_i h; rw [h]; exact Up.one s
  · cases hj⟩
set_option maxHeartbeats 2000000 in
theorem allUnderRoot_any (hV : VW w g bi be bn ba N it o1 o2 o3 rv pv s) (hN : N ≤ 4194304) (hch : Chn s) (hkey : ∀ j, (s.ino j).isSome = true → j < 4294967296) :
    Calls Tryz.prog 136 #[.pointer (some ⟨g, 0, none⟩)] w fun e w' => e = .returned (.bool (allB s)) ∧ Below w.heap.size w w' := by
  have HV := Lib.hid hV
  have HKEY := Lib.hid hkey
  have HCL := Lib.hid (fun (wx : World) (h : VW wx g bi be bn ba N it o1 o2 o3 rv pv s) (i bu M : Nat) (U : Nat → Option Unit) (hi : i < 4294967296) (hk : kind s i = 1) (hU : mU.At wx bu M U) (hKn : Known s U) (hM : M ≤ 35184372088832) (hbu : ba < bu) => climb_any h hN hch hkey i hi hk hU hKn hM hbu)
  have HMD := Lib.hid (Mq.MT.At.made mU w)
  have hal : Below w.heap.size w (w.alloc (.map #[] 0)) := (Below.refl _ _).alloc (Nat.le_refl _) _
  have HVa := Lib.hid (hV.go hal)
  have HBa := Lib.hid hal
  have HKR := Lib.hid (known_root s)
  have HZ := Lib.hid (show ba < w.heap.size from hV.m.lt.2.2.2)
  have hmm := @run_makeMap Tryz.prog
  clear hal hV hkey hch
  obtain ⟨q, hq⟩ : ∃ q, allB s = q := ⟨_, rfl⟩
  rw [hq]
  have HQ := Lib.hid hq
  clear hq
  obtain ⟨w2, hrun, ha2, hg2⟩ := HMD.out.put (by unfold maxLen; omega) (x := 1) (show (1 : Nat) < 4294967296 by decide) () (G := fun j => if j = 1 then some () else none) (if_pos rfl) (fun z hz => if_neg hz)
  have hrun2 : (Instr.mapUpdate 247 (.map (some w.heap.size)) (.int .u32 1) (.agg #[])).run Tryz.prog (w.alloc (.map #[] 0)) = .ok () w2 := hrun
  have HU2 := Lib.hid ha2
  have HB2 := Lib.hid (show Below w.heap.size w w2 from HBa.out.grown hg2 HBa.out.size (fun k hk => by cases hk; exact Nat.le_refl _))
  have HV2 := Lib.hid (HV.out.go HB2.out)
  have c6 : w2.cell? ⟨g, 6, none⟩ = some (.map (some bi)) := HV2.out.c.cells.2.2.2.1
  clear hrun ha2 hg2 HMD HBa HVa
  go_enter Tryz.func136, Tryz.ntmps136
  go_wp2_with (first
    | (refine Mq.wpList_range mI rfl _ rfl bi N _ rfl HV2.out.m.i ?_
       intro w3 cnt hc hr hg hs
       have HR3 := Lib.hid hr
       have HCN := Lib.hid hc
       have HB3 := Lib.hid (show Below w2.heap.size w2 w3 from (Below.refl _ _).grown hg (Nat.le_refl _) (fun k hk => by cases hk))
       clear hr hg hs hc))
  have HV3 := Lib.hid (HV2.out.go HB3.out)
  have HU3 := Lib.hid (HU2.out.go HU2.out.lt HB3.out)
  have HB4 := Lib.hid (HB2.out.trans (HB3.out.mono HB2.out.size))
  have HRL := Lib.hid (show w.heap.size ≤ w2.heap.size from HB2.out.size)
  have HUL := Lib.hid (show w.heap.size < w2.heap.size from HU2.out.lt)
  obtain ⟨r, hr⟩ : ∃ r, w2.heap.size = r := ⟨_, rfl⟩
  rw [hr] at HR3 HRL HUL
  simp only [hr]
  clear hrun2 c6 hmm HU2 HB2 HV2 HB3 hr
  go_frame
  go_loopw [14] (fun v wr => ∃ (left : Nat → Bool) (cn M : Nat) (U : Nat → Option Unit), Hid (mI.Rng wr bi r N s.ino left cn) ∧ Hid (mU.At wr w.heap.size M U) ∧ Hid (Known s U) ∧ Hid (∀ j n, s.ino j = some n → n.K = 1 → left j = false → Up s j) ∧ Hid (Below w.heap.size w wr) ∧ Hid (M + cn * N ≤ 1 + cnt * N)) (fun _ wr => wr.rangeLeft bi r)
  case atStart => exact ⟨_, cnt, 1, _, HR3.out, HU3.out, HKR.out, fun j n h1 h2 h3 => by (rw [h1] at h3; cases h3), HB4.out, Nat.le_refl _⟩
  case round =>
    obtain ⟨left, cn, M, U, hr, hu, hkn, hl, hb, hm⟩ := hrel
    have HR := Lib.hid (Hid.out hr)
    have HU := Lib.hid (Hid.out hu)
    have HK := Lib.hid (Hid.out hkn)
    have HL := Lib.hid (Hid.out hl)
    have HB := Lib.hid (Hid.out hb)
    have HM := Lib.hid (Hid.out hm)
    clear hr hu hkn hl hb hm
    have HV5 := Lib.hid (HV.out.go HB.out)
    have hrne := HR.out.lt
    go_wp2_with (refine wpList_nextI rfl _ rfl bi r N s.ino left cn rfl HR.out ?_ ?_)
    · intro hc0 hl0
      have HL0 := Lib.hid hl0
      clear hc0 hl0
      go_wp2
      go_ret
      have hall : allB s = true := allB_yes fun j n h1 h2 => HL.out j n h1 h2 (HL0.out j (HKEY.out j (by rw [h1]; rfl)))
      exact ⟨by rw [← HQ.out, hall]; rfl, HB.out⟩
    · intro x nK nM nL nS nT w5 cn5 hx hF hr5 hlt hg5 hs5 hen
      have HX := Lib.hid hx
      have HF := Lib.hid hF
      have HLT := Lib.hid hlt
      have HBr := Lib.hid (show Off (fun j => j = r) wr w5 from Off.of_grown hg5 rfl)
      have HVr := Lib.hid (show VW w5 g bi be bn ba N it o1 o2 o3 rv pv s from (HV.out.go (HB.out.grown hg5 HB.out.size (fun k hk => by cases hk; exact HRL.out))))
      have HUr := Lib.hid (HU.out.keep (hg5.block _ HU.out.lt (fun e => by have := HUL.out; cases e; omega)))
      have HB5 := Lib.hid (HB.out.grown hg5 HB.out.size (fun k hk => by cases hk; exact HRL.out))
      have hal : Below w5.heap.size w5 (w5.alloc (.cells #[.int .u8 nK, .int .u16 nM, .int .u32 nL, .int .u32 nS, .string nT] 33)) := (Below.refl _ _).alloc (Nat.le_refl _) _
      have n0 : (w5.alloc (.cells #[.int .u8 nK, .int .u16 nM, .int .u32 nL, .int .u32 nS, .string nT] 33)).cell? ⟨w5.heap.size, 0, none⟩ = some (.int .u8 nK) := by simp
      have HV6 := Lib.hid (HVr.out.go hal)
      have HU6 := Lib.hid (HUr.out.go HUr.out.lt hal)
      have HR6 := Lib.hid (hr5.keep (w' := w5.alloc (.cells #[.int .u8 nK, .int .u16 nM, .int .u32 nL, .int .u32 nS, .string nT] 33)) (hal.block bi (HVr.out.m.xlt _ (.inl rfl))) (hal.block r hr5.lt.1))
      have HB6 := Lib.hid (HB5.out.trans (hal.mono HB5.out.size))
      have HM6 := Lib.hid (show M + N + cn5 * N ≤ 1 + cnt * N from by
        have h1 := HM.out
        have h2 : (cn5 + 1) * N ≤ cn * N := Nat.mul_le_mul_right N hlt
        rw [Nat.add_mul, Nat.one_mul] at h2
        omega)
      have HBD := Lib.hid (show 1 + cnt * N ≤ 35184372088832 from by
        have h1 := Nat.mul_le_mul (Nat.le_trans HCN.out hN) hN
        omega)
      have HLN := Lib.hid (fun (hup : nK = 1 → Up s x) => (show ∀ j n, s.ino j = some n → n.K = 1 → (left j && decide (j ≠ x)) = false → Up s j from fun j n h1 h2 h3 => by
        by_cases e : j = x
        · subst e
          rw [HF.out] at h1
          cases h1
          exact hup h2
        · rw [show decide (j ≠ x) = true from decide_eq_true e, Bool.and_true] at h3
          exact HL.out j n h1 h2 h3))
      clear hx hF hr5 hlt hg5 hs5 hal HVr HUr HB5 HV5
      by_cases hk : nK = 1
      · subst hk
        have HC := Lib.hid (HCL.out _ HV6.out x w.heap.size M U HX.out (by unfold kind; rw [HF.out]) HU6.out HK.out (by have h1 := HBD.out; have h2 := HM6.out; omega) HZ.out)
        unfold ClPost at HC
        cases hq : upB s x
        · rw [hq] at HC
          go_wp2_with (go_at_call 180; refine HC.out.mono ?_; rintro e w7 ⟨rfl, _, ho⟩; have HO := Lib.hid ho; clear ho)
          go_ret
          have hall : allB s = false := allB_no fun h => upB_not hq (h x _ HF.out rfl)
          exact ⟨by rw [← HQ.out, hall]; rfl, HB6.out.trans (HO.out.below HB6.out.size (fun j hj => by rw [hj]; exact Nat.le_refl _))⟩
        · rw [hq] at HC
          have HYU := Lib.hid (upB_up hq)
          clear hq
          go_wp2_with (go_at_call 180; refine HC.out.mono ?_; rintro e w7 ⟨rfl, hx7, ho⟩; obtain ⟨U7, M7, hM7, hU7, hK7⟩ := hx7 rfl; have HM7 := Lib.hid hM7; have HU7 := Lib.hid hU7; have HK7 := Lib.hid hK7; have HO := Lib.hid ho; clear ho hx7 hM7 hU7 hK7)
          have HR7 := Lib.hid (HR6.out.keep (HO.out.block bi (HV6.out.m.xlt _ (.inl rfl)) (fun e => by have h1 := HV6.out.o; have h2 := HZ.out; omega)) (HO.out.block r HR6.out.lt.1 (fun e => by have h1 := HUL.out; omega)))
          have HB7 := Lib.hid (HB6.out.trans (HO.out.below HB6.out.size (fun j hj => by rw [hj]; exact Nat.le_refl _)))
          exact ⟨⟨_, cn5, M7, U7, HR7.out, HU7.out, HK7.out, (fun j n h1 h2 h3 => HLN.out (fun _ => HYU.out) j n h1 h2 (by rw [show decide (j ≠ x) = !decide (j = x) from decide_not]; exact h3)), HB7.out, by have h1 := HM7.out; have h2 := HM6.out; show _ ≤ _; omega⟩, by rw [HR7.out.left_eq, HR.out.left_eq]; exact HLT.out⟩
      · have e1 : ((nK : Int) == 1) = false := eqz1 (decide_eq_false hk)
        have HNK := Lib.hid hk
        clear hk
        go_wp2_with fail
        exact ⟨⟨_, cn5, M, U, HR6.out, HU6.out, HK.out, (fun j n h1 h2 h3 => HLN.out (fun e => absurd e HNK.out) j n h1 h2 (by rw [show decide (j ≠ x) = !decide (j = x) from decide_not]; exact h3)), HB6.out, by have h2 := HM6.out; show _ ≤ _; omega⟩, by rw [HR6.out.left_eq, HR.out.left_eq]; exact HLT.out⟩
end Go.Proofs.YtjkmfonngbendaaGreatDoor.Di
/- What a right list of items is: facts that package dirs' look leans on. No walk of code here. -/
namespace Go.Proofs.YtjkmfonngbendaaGreatDoor.Di
set_option linter.unusedVariables false
set_option linter.unusedSimpArgs false
open Ino
open It (Itm)
open Ph (nb)
theorem rtFrom_some : ∀ (D : List Itm) (y : Itm), It.rtFrom (some y) D = true → (∀ x ∈ D, By.bl (It.key y) (It.key x) = true ∧ It.okI x = true) ∧ D.Pairwise (fun a b => By.bl (It.key a) (It.key b) = true)
  | [], y, _ => ⟨fun x hx => (by cases hx), List.Pairwise.nil⟩
  | z :: D, y, h => by
    simp only [It.rtFrom, Bool.and_eq_true] at h
    obtain ⟨h1, h2, h3⟩ := h
    obtain ⟨h4, h5⟩ := rtFrom_some D z h3
    refine ⟨fun x hx => ?_, List.pairwise_cons.2 ⟨fun x hx => (h4 x hx).1, h5⟩⟩
    rcases List.mem_cons.1 hx with rfl | hx
    · exact ⟨h2, h1⟩
    · exact ⟨By.bl_trans _ _ _ h2 (h4 x hx).1, (h4 x hx).2⟩
theorem rt_all {D : List Itm} (h : It.rt D = true) : (∀ x ∈ D, It.okI x = true) ∧ D.Pairwise (fun a b => By.bl (It.key a) (It.key b) = true) := by
  unfold It.rt at h
  cases D with
  | nil => exact ⟨fun x hx => (by cases hx), List.Pairwise.nil⟩
  | cons z D =>
    simp only [It.rtFrom, Bool.and_eq_true] at h
    obtain ⟨h1, h2⟩ := rtFrom_some D z h.2
    refine ⟨fun x hx => ?_, List.pairwise_cons.2 ⟨fun x hx => (h1 x hx).1, h2⟩⟩
    rcases List.mem_cons.1 hx with rfl | hx
    · exact h.1
    · exact (h1 x hx).2
theorem rt_sizes {D : List Itm} (h : It.rt D = true) : ∀ x ∈ D, x.k.size ≤ 48 ∧ x.v.size ≤ 160 := fun x hx => by
  have := (rt_all h).1 x hx
  simp only [It.okI, It.okKey, Bool.and_eq_true, decide_eq_true_iff] at this
  exact ⟨this.1.2, this.2⟩
theorem okX_1 {x : Itm} (h : okX x = true) : deKE x.k = 0 ∧ okP (ptOf x) = true := by
  unfold okX at h
  rw [Bool.and_eq_true, decide_eq_true_iff] at h
  exact h
theorem pt_ok {x : Itm} (h : okX x = true) (hv : x.v.size ≤ 160) : PtOk (ptOf x) ∧ okK (ptOf x).k = true := by
  have h1 := deK_ok (okX_1 h).1
  refine ⟨⟨h1.2.2, ⟨h1.2.2, ?_⟩, hv, ?_⟩, h1.1⟩
  · have := okK_size h1.1
    unfold maxLen
    show (deK x.k).N.size ≤ _
    omega
  · show (deK x.k).C < 512
    rcases (okK_iff.1 h1.1).2 with h2 | h2 | h2
    · rw [h2.2.2]; decide
    · rw [h2.2.2]; decide
    · exact h2.2.2
theorem pts_mem {L : List Itm} {p : Pt} (h : p ∈ pts L) : ∃ x ∈ L, ptOf x = p := List.mem_map.1 h
theorem pts_ok {L : List Itm} (h : It.rt L = true) (hok : ∀ x ∈ L, okX x = true) : ∀ p ∈ pts L, PtOk p ∧ okP p = true ∧ okK p.k = true := fun p hp => by
  obtain ⟨x, hx, rfl⟩ := pts_mem hp
  have h1 := pt_ok (hok x hx) (rt_sizes h x hx).2
  exact ⟨h1.1, (okX_1 (hok x hx)).2, h1.2⟩
theorem kind_get (s : Vo) (i : Nat) : kind s i = ((s.ino i).getD zIn).K := by
  unfold kind
  cases s.ino i <;> rfl
theorem key_lt {ps : List Pt} (h : ∀ p ∈ ps, PtOk p) (j : Nat) (hj : ((vo ps).ino j).isSome = true) : j < 4294967296 := by
  cases e : (vo ps).ino j with
  | none => rw [e] at hj; cases hj
  | some n =>
    obtain ⟨p, hp, _, rfl, _⟩ := ino_of ps e
    exact (h p hp).1.2.1
/-- what is asked, in the order in which it is -/
theorem rgt_eq (L : List Itm) : rgt L = (It.rt L && (L.all okX && (decide (kind (vo (pts L)) 1 = 1) && (!(pts L).any (stray (vo (pts L))) && allB (vo (pts L)))))) := by
  rw [Bool.eq_iff_iff, rgt_iff]
  simp only [Bool.and_eq_true, decide_eq_true_iff, Bool.not_eq_true']
  constructor
  · rintro ⟨h1, h2, h3, h4, h5⟩
    refine ⟨h1, List.all_eq_true.2 h2, h3, ?_, allB_yes h5⟩
    rw [Bool.eq_false_iff]
    intro h
    obtain ⟨p, hp, h6⟩ := List.any_eq_true.1 h
    rw [h4 p hp] at h6
    cases h6
  · rintro ⟨h1, h2, h3, h4, h5⟩
    refine ⟨h1, List.all_eq_true.1 h2, h3, fun p hp => ?_, ?_⟩
    · rw [Bool.eq_false_iff] at h4 ⊢
      exact fun h => h4 (List.any_eq_true.2 ⟨p, hp, h⟩)
    · unfold allB at h5
      exact @of_decide_eq_true _ (Classical.propDecidable _) h5
end Go.Proofs.YtjkmfonngbendaaGreatDoor.Di
/- Contract of package dirs' look. -/
namespace Go.Proofs.YtjkmfonngbendaaGreatDoor.Di
set_option linter.unusedVariables false
set_option linter.unusedSimpArgs false
set_option maxRecDepth 100000
open Go.ChangeShapes Go.WideShapes Go.ChangeAt Go.RowKit
open BigFrame
open Ar Rg
open Ino
open It (Itm)
variable {w w' wr : World} {g bi be bn ba bu N M bb : Nat} {it o1 o2 o3 rv pv m1 m2 m3 m4 v : Value} {s s' : Vo} {ps : List Pt} {U : Nat → Option Unit}
theorem At.empty {κ α : Type} {P : Program} (M : Mq.MT P κ α) {b : Nat} (h : w.heap[b]? = some (.map #[] 0)) : M.At w b 0 (fun _ => none) := by
  obtain ⟨D, ⟨es, clock, h1, r⟩, h2⟩ := Mq.MT.At.made M ⟨#[], w.tape, w.drawn, w.os, w.output⟩
  have h3 : some (Obj.map es clock) = some (.map #[] 0) := h1.symm.trans rfl
  exact ⟨D, ⟨es, clock, h.trans h3.symm, r⟩, h2⟩
/-- a map made, and put into a cell of block g -/
structure Stp (w w1 : World) (g : Nat) : Prop where
  new : w1.heap[w.heap.size]? = some (.map #[] 0)
  size : w1.heap.size = w.heap.size + 1
  off : Off (fun j => j = g) w w1
theorem stp_of (w : World) (i : Nat) (u : Value) (hg : g < w.heap.size) : Stp w ((w.alloc (.map #[] 0)).setCell ⟨g, i, none⟩ u) g := by
  refine ⟨?_, by simp, ?_⟩
  · exact (Below.heap_setCell _ _ _ _ (show w.heap.size ≠ g by omega)).trans (heap_alloc_new w _)
  · exact (Off.of_below ((Below.refl w.heap.size w).alloc (Nat.le_refl _) _)).trans (off_set _ _ _ rfl)
theorem VC.al (h : VC w g it o1 o2 o3 rv pv m1 m2 m3 m4) (o : Obj) : VC (w.alloc o) g it o1 o2 o3 rv pv m1 m2 m3 m4 := h.keep (((Below.refl w.heap.size w).alloc (Nat.le_refl _) o).block g h.lt)
theorem vo0_ok : VoOk vo0 := ⟨fun i n h => (by cases h), fun k j h => (by cases h), fun _ => (by decide : (0 : Nat) < 4294967296), fun _ => (by decide : (0 : Nat) < 4294967296)⟩
/-- a right volume, looked through -/
def VolAt (w : World) (g lo : Nat) (it o1 o2 o3 : Value) (L : List Itm) : Prop :=
  ∃ bi be bn ba A c, VW w g bi be bn ba (3 * L.length) it o1 o2 o3 (.bool true) (.slice A L.length c) (vo (pts L)) ∧ L.length ≤ c ∧ c ≤ maxLen ∧ Ls encP 5 w w.heap.size A (pts L) ∧ (∀ b o, A = some ⟨b, o, none⟩ → lo ≤ b) ∧ lo ≤ bi ∧ g < lo
theorem pts_length (L : List Itm) : (pts L).length = L.length := List.length_map _
theorem stray_none {ps : List Pt} {s : Vo} (h : ps.any (stray s) = false) : ∀ p ∈ ps, stray s p = false := fun p hp => by
  rw [Bool.eq_false_iff] at h ⊢
  exact fun h2 => h (List.any_eq_true.2 ⟨p, hp, h2⟩)
theorem ls_off {A : Option Addr} (h : Ls encP 5 w w.heap.size A ps) (hA : ∀ b o, A = some ⟨b, o, none⟩ → b ≠ g) (ho : Off (fun j => j = g) w w') : Ls encP 5 w' w'.heap.size A ps := fun i x hx => by
  obtain ⟨b, o, e, h1, h2⟩ := h i x hx
  exact ⟨b, o, e, Nat.lt_of_lt_of_le h1 ho.size, fun j v hv => (World.cell?_of_block (a := ⟨b, _, none⟩) (ho.block b h1 (hA b o e))).trans (h2 j v hv)⟩
theorem Off.trans' {X Y : Nat → Prop} {a b c : World} (h : Off X a b) (k : Off Y b c) (hY : ∀ j, Y j → X j ∨ a.heap.size ≤ j) : Off X a c :=
  ⟨k.os.trans h.os, k.tape.trans h.tape, k.output.trans h.output, Nat.le_trans h.size k.size, fun j hj hx => (k.block j (Nat.lt_of_lt_of_le hj h.size) fun hy => (hY j hy).elim hx (by omega)).trans (h.block j hj hx)⟩
def LkPost (g : Nat) (it o1 o2 o3 : Value) (L : List Itm) (w : World) (e : Ending) (w' : World) : Prop :=
  e = .returned (.tuple #[]) ∧ (∃ pv m1 m2 m3 m4, VC w' g it o1 o2 o3 (.bool (rgt L)) pv m1 m2 m3 m4) ∧ (rgt L = true → VolAt w' g w.heap.size it o1 o2 o3 L) ∧ Off (fun j => j = g) w w'
set_option maxHeartbeats 4000000 in
theorem look_any (L : List Itm) (A : Option Addr) (n c : Nat) (hC : VC w g (.slice A n c) o1 o2 o3 (.bool false) (.slice none 0 0) m1 m2 m3 m4) (hn : n = L.length) (hm : n ≤ 1048576) (hD : Ls It.enc 2 w g A L) :
    Calls Tryz.prog 87 #[.pointer (some ⟨g, 0, none⟩)] w (LkPost g (.slice A n c) o1 o2 o3 L w) := by
  have hmm := @run_makeMap Tryz.prog
  have HN := Lib.hid hn
  have HD := Lib.hid hD
  have HBg := Lib.hid (Below.refl g w)
  have HG0 := Lib.hid hC.lt
  clear hn hD
  go_enter Tryz.func87, Tryz.ntmps87
  have Va := hC.al (.map #[] 0)
  have ca : (w.alloc (.map #[] 0)).cell? ⟨g, 6, none⟩ = some m1 := Va.cells.2.2.2.1
  have fa := Va.fz 6
  have Vb := Va.set6 (.map (some w.heap.size))
  have Sb := stp_of w 6 (.map (some w.heap.size)) hC.lt
  go_upto_region 1 with fail
  clear ca fa Va
  have HV1 := Lib.hid Vb
  have HS1 := Lib.hid Sb
  clear Vb Sb hC
  generalize (w.alloc (.map #[] 0)).setCell ⟨g, 6, none⟩ (.map (some w.heap.size)) = W1 at *
  have hV1 := HV1.out
  have Va := hV1.al (.map #[] 0)
  have ca : (W1.alloc (.map #[] 0)).cell? ⟨g, 7, none⟩ = some m2 := Va.cells.2.2.2.2.1
  have fa := Va.fz 7
  have Vb := Va.set7 (.map (some W1.heap.size))
  have Sb := stp_of W1 7 (.map (some W1.heap.size)) hV1.lt
  go_upto_region 2 with fail
  clear ca fa Va
  have HV2 := Lib.hid Vb
  have HS2 := Lib.hid Sb
  clear Vb Sb hV1
  generalize (W1.alloc (.map #[] 0)).setCell ⟨g, 7, none⟩ (.map (some W1.heap.size)) = W2 at *
  have hV2 := HV2.out
  have Va := hV2.al (.map #[] 0)
  have ca : (W2.alloc (.map #[] 0)).cell? ⟨g, 8, none⟩ = some m3 := Va.cells.2.2.2.2.2.1
  have fa := Va.fz 8
  have Vb := Va.set8 (.map (some W2.heap.size))
  have Sb := stp_of W2 8 (.map (some W2.heap.size)) hV2.lt
  go_upto_region 3 with fail
  clear ca fa Va
  have HV3 := Lib.hid Vb
  have HS3 := Lib.hid Sb
  clear Vb Sb hV2
  generalize (W2.alloc (.map #[] 0)).setCell ⟨g, 8, none⟩ (.map (some W2.heap.size)) = W3 at *
  have hV3 := HV3.out
  have Va := hV3.al (.map #[] 0)
  have ca : (W3.alloc (.map #[] 0)).cell? ⟨g, 9, none⟩ = some m4 := Va.cells.2.2.2.2.2.2
  have fa := Va.fz 9
  have Vb := Va.set9 (.map (some W3.heap.size))
  have Sb := stp_of W3 9 (.map (some W3.heap.size)) hV3.lt
  go_upto_region 4 with fail
  clear ca fa Va
  have HV4 := Lib.hid Vb
  have HS4 := Lib.hid Sb
  clear Vb Sb hV3
  generalize (W3.alloc (.map #[] 0)).setCell ⟨g, 9, none⟩ (.map (some W3.heap.size)) = W4 at *
  have hV4 := HV4.out
  have HO4 := Lib.hid (((HS1.out.off.trans HS2.out.off).trans HS3.out.off).trans HS4.out.off)
  obtain ⟨bi, hbi⟩ : ∃ bi, w.heap.size = bi := ⟨_, rfl⟩
  obtain ⟨be, hbe⟩ : ∃ be, W1.heap.size = be := ⟨_, rfl⟩
  obtain ⟨bn, hbn⟩ : ∃ bn, W2.heap.size = bn := ⟨_, rfl⟩
  obtain ⟨ba, hba⟩ : ∃ ba, W3.heap.size = ba := ⟨_, rfl⟩
  have hgw : g < bi := by
    have h1 := HV1.out.lt
    have h2 := HS1.out.size
    have h3 := HG0.out
    omega
  have e1 := HS1.out.new
  have e2 := HS2.out.new
  have e3 := HS3.out.new
  have e4 := HS4.out.new
  have s1 := HS1.out.size
  have s2 := HS2.out.size
  have s3 := HS3.out.size
  have s4 := HS4.out.size
  rw [hbi] at e1 s1 hV4
  rw [hbe] at e2 s2 s1 hV4
  rw [hbn] at e3 s3 s2 hV4
  rw [hba] at e4 s4 s3 hV4
  have e1' : W4.heap[bi]? = some (.map #[] 0) := (HS4.out.off.block bi (by omega) (by omega)).trans ((HS3.out.off.block bi (by omega) (by omega)).trans ((HS2.out.off.block bi (by omega) (by omega)).trans e1))
  have e2' : W4.heap[be]? = some (.map #[] 0) := (HS4.out.off.block be (by omega) (by omega)).trans ((HS3.out.off.block be (by omega) (by omega)).trans e2)
  have e3' : W4.heap[bn]? = some (.map #[] 0) := (HS4.out.off.block bn (by omega) (by omega)).trans e3
  have HVW := Lib.hid (show VW W4 g bi be bn ba 0 (.slice A n c) o1 o2 o3 (.bool false) (.slice none 0 0) vo0 from ⟨hV4, ⟨At.empty mI e1', At.empty mE e2', ⟨_, At.empty mN e3', fun _ => rfl⟩, ⟨_, At.empty mN e4, fun _ => rfl⟩, vo0_ok⟩, by omega⟩)
  have HBL := Lib.hid HO4.out
  have HD4 := Lib.hid (HD.out.below (show Below g w W4 from HO4.out.below (by omega) (fun j hj => by omega)))
  have HWB := Lib.hid (show w.heap.size ≤ bi by omega)
  have HGW := Lib.hid (show g < w.heap.size from HG0.out)
  have c0 : W4.cell? ⟨g, 0, none⟩ = some (.slice A n c) := HVW.out.c.cells.1
  have HCK := Lib.hid (It.check_any L A n c g HN.out (by omega) W4 (by omega) HD4.out)
  clear e1 e2 e3 e4 e1' e2' e3' s1 s2 s3 s4 hbi hbe hbn hba hV4 HS1 HS2 HS3 HS4 HV1 HV2 HV3 HV4 HO4 HD hgw HG0 hmm HBg
  have HRE := Lib.hid (rgt_eq L)
  unfold It.errF at HCK
  obtain ⟨q1, h1⟩ : ∃ q1, It.rt L = q1 := ⟨_, rfl⟩
  obtain ⟨q2, h2⟩ : ∃ q2, L.all okX = q2 := ⟨_, rfl⟩
  obtain ⟨q3, h3⟩ : ∃ q3, decide (kind (vo (pts L)) 1 = 1) = q3 := ⟨_, rfl⟩
  obtain ⟨q4, h4⟩ : ∃ q4, (pts L).any (stray (vo (pts L))) = q4 := ⟨_, rfl⟩
  obtain ⟨q5, h5⟩ : ∃ q5, allB (vo (pts L)) = q5 := ⟨_, rfl⟩
  rw [h1, h2, h3, h4, h5] at HRE
  rw [h1] at HCK
  have H1 := Lib.hid h1
  have H2 := Lib.hid h2
  have H3 := Lib.hid h3
  have H4 := Lib.hid h4
  have H5 := Lib.hid h5
  clear h1 h2 h3 h4 h5
  cases q1
  · go_wp2_with (first
      | (go_at_call 60; refine HCK.out.mono ?_; rintro e w5 ⟨rfl, hb5⟩; have V5 := Lib.hid (HVW.out.go hb5); have B5 := Lib.hid (HBL.out.trans (Off.of_below hb5)); have D5 := Lib.hid (HD4.out.below (hb5.mono (Nat.le_of_lt HVW.out.c.lt))); clear hb5; have d4 : w5.cell? ⟨g, 4, none⟩ = some (.bool false) := V5.out.c.cells.2.1; have f4 := V5.out.c.fz 4))
    go_end0
    have hno : rgt L = false := HRE.out
    exact ⟨rfl, ⟨_, _, _, _, _, by rw [hno]; exact V5.out.c.set4 _⟩, fun h => by (rw [hno] at h; cases h), B5.out.trans (off_set (X := fun j => j = g) _ _ _ rfl)⟩
  · cases q2
    · go_wp2_with (first
        | (go_at_call 60; refine HCK.out.mono ?_; rintro e w5 ⟨rfl, hb5⟩; have V5 := Lib.hid (HVW.out.go hb5); have B5 := Lib.hid (HBL.out.trans (Off.of_below hb5)); have D5 := Lib.hid (HD4.out.below (hb5.mono (Nat.le_of_lt HVW.out.c.lt))); clear hb5)
        | (go_at_call 133; refine (takeAll_any L A n c V5.out HN.out hm D5.out (rt_sizes H1.out)).mono ?_; rintro e w6 ⟨pv, rfl, hc6, hm6, ho6⟩; rw [H2.out]; have C6 := Lib.hid hc6; have M6 := Lib.hid (fun h => hm6 (H2.out.trans h)); have B6 := Lib.hid (B5.out.trans' ho6 (fun j hj => by have h1 := V5.out.o; have h2 := HWB.out; rcases hj with h | h | h | h | h <;> omega)); clear hc6 hm6 ho6; have d4 : w6.cell? ⟨g, 4, none⟩ = some (.bool false) := C6.out.cells.2.1; have f4 := C6.out.fz 4))
      go_end0
      have hno : rgt L = false := HRE.out
      exact ⟨rfl, ⟨_, _, _, _, _, by rw [hno]; exact C6.out.set4 _⟩, fun h => by (rw [hno] at h; cases h), B6.out.trans (off_set (X := fun j => j = g) _ _ _ rfl)⟩
    · cases q3
      · go_wp2_with (first
          | (go_at_call 60; refine HCK.out.mono ?_; rintro e w5 ⟨rfl, hb5⟩; have V5 := Lib.hid (HVW.out.go hb5); have B5 := Lib.hid (HBL.out.trans (Off.of_below hb5)); have D5 := Lib.hid (HD4.out.below (hb5.mono (Nat.le_of_lt HVW.out.c.lt))); clear hb5)
          | (go_at_call 133; refine (takeAll_any L A n c V5.out HN.out hm D5.out (rt_sizes H1.out)).mono ?_; rintro e w6 ⟨pv, rfl, hc6, hm6, ho6⟩; rw [H2.out]; have C6 := Lib.hid hc6; have M6 := Lib.hid (fun h => hm6 (H2.out.trans h)); have B6 := Lib.hid (B5.out.trans' ho6 (fun j hj => by have h1 := V5.out.o; have h2 := HWB.out; rcases hj with h | h | h | h | h <;> omega)); clear hc6 hm6 ho6; obtain ⟨hms, hpa⟩ := M6.out rfl; obtain ⟨A7, c7, rfl, hl7, hc7, hp7⟩ := hpa.ls; have PL := Lib.hid hp7; have PC := Lib.hid hl7; have PD := Lib.hid hc7; have V6 := Lib.hid (show VW w6 g bi be bn ba (3 * L.length) (.slice A n c) o1 o2 o3 (.bool false) (.slice A7 (pts L).length c7) (vo (pts L)) from ⟨C6.out, hms, V5.out.o⟩); have PO := Lib.hid (show ∀ b o, A7 = some ⟨b, o, none⟩ → w.heap.size ≤ b from fun b o e => by have h1 := (hpa.own b (by rw [e]; rfl)).1; have h2 := B5.out.size; omega); clear hms hpa hp7 hl7 hc7; have c6 : w6.cell? ⟨g, 6, none⟩ = some (.map (some bi)) := V6.out.c.cells.2.2.2.1; have c5 : w6.cell? ⟨g, 5, none⟩ = some (.slice A7 (pts L).length c7) := V6.out.c.cells.2.2.1; obtain ⟨nr, hnr⟩ : ∃ nr, ((vo (pts L)).ino 1).getD zIn = nr := ⟨_, rfl⟩; obtain ⟨nK, nM, nL, nS, nT⟩ := nr; have hlk : (Instr.lookup 95 (.map (some bi)) (.int .u32 1) false).run Tryz.prog w6 = .ok (.agg #[.int .u8 nK, .int .u16 nM, .int .u32 nL, .int .u32 nS, .string nT]) w6 := (by have := lookI (j := 1) V6.out.m.i (by decide); rw [hnr] at this; exact this); have hk1 : ((nK : Int) == 1) = false := (by rw [eqz1 rfl, ← H3.out, kind_get, hnr]); clear hnr; have hfd : ∀ wx : World, (Instr.field 33 (.agg #[.int .u8 nK, .int .u16 nM, .int .u32 nL, .int .u32 nS, .string nT]) 0).run Tryz.prog wx = .ok (.int .u8 nK) wx := (fun _ => by kernel_rfl); have d4 : w6.cell? ⟨g, 4, none⟩ = some (.bool false) := C6.out.cells.2.1; have f4 := C6.out.fz 4))
        go_end0
        have hno : rgt L = false := HRE.out
        exact ⟨rfl, ⟨_, _, _, _, _, by rw [hno]; exact C6.out.set4 _⟩, fun h => by (rw [hno] at h; cases h), B6.out.trans (off_set (X := fun j => j = g) _ _ _ rfl)⟩
      · cases q4
        · cases q5
          · go_wp2_with (first
              | (go_at_call 60; refine HCK.out.mono ?_; rintro e w5 ⟨rfl, hb5⟩; have V5 := Lib.hid (HVW.out.go hb5); have B5 := Lib.hid (HBL.out.trans (Off.of_below hb5)); have D5 := Lib.hid (HD4.out.below (hb5.mono (Nat.le_of_lt HVW.out.c.lt))); clear hb5)
              | (go_at_call 133; refine (takeAll_any L A n c V5.out HN.out hm D5.out (rt_sizes H1.out)).mono ?_; rintro e w6 ⟨pv, rfl, hc6, hm6, ho6⟩; rw [H2.out]; have C6 := Lib.hid hc6; have M6 := Lib.hid (fun h => hm6 (H2.out.trans h)); have B6 := Lib.hid (B5.out.trans' ho6 (fun j hj => by have h1 := V5.out.o; have h2 := HWB.out; rcases hj with h | h | h | h | h <;> omega)); clear hc6 hm6 ho6; obtain ⟨hms, hpa⟩ := M6.out rfl; obtain ⟨A7, c7, rfl, hl7, hc7, hp7⟩ := hpa.ls; have PL := Lib.hid hp7; have PC := Lib.hid hl7; have PD := Lib.hid hc7; have V6 := Lib.hid (show VW w6 g bi be bn ba (3 * L.length) (.slice A n c) o1 o2 o3 (.bool false) (.slice A7 (pts L).length c7) (vo (pts L)) from ⟨C6.out, hms, V5.out.o⟩); have PO := Lib.hid (show ∀ b o, A7 = some ⟨b, o, none⟩ → w.heap.size ≤ b from fun b o e => by have h1 := (hpa.own b (by rw [e]; rfl)).1; have h2 := B5.out.size; omega); clear hms hpa hp7 hl7 hc7; have c6 : w6.cell? ⟨g, 6, none⟩ = some (.map (some bi)) := V6.out.c.cells.2.2.2.1; have c5 : w6.cell? ⟨g, 5, none⟩ = some (.slice A7 (pts L).length c7) := V6.out.c.cells.2.2.1; obtain ⟨nr, hnr⟩ : ∃ nr, ((vo (pts L)).ino 1).getD zIn = nr := ⟨_, rfl⟩; obtain ⟨nK, nM, nL, nS, nT⟩ := nr; have hlk : (Instr.lookup 95 (.map (some bi)) (.int .u32 1) false).run Tryz.prog w6 = .ok (.agg #[.int .u8 nK, .int .u16 nM, .int .u32 nL, .int .u32 nS, .string nT]) w6 := (by have := lookI (j := 1) V6.out.m.i (by decide); rw [hnr] at this; exact this); have hk1 : ((nK : Int) == 1) = true := (by rw [eqz1 rfl, ← H3.out, kind_get, hnr]); clear hnr; have hfd : ∀ wx : World, (Instr.field 33 (.agg #[.int .u8 nK, .int .u16 nM, .int .u32 nL, .int .u32 nS, .string nT]) 0).run Tryz.prog wx = .ok (.int .u8 nK) wx := (fun _ => by kernel_rfl))
              | (go_at_call 134; refine (containsFunc_any V6.out A7 _ c7 rfl (by rw [pts_length]; have := HN.out; omega) PL.out (fun p hp => (pts_ok H1.out (List.all_eq_true.1 H2.out) p hp).1)).mono ?_; rintro e w7 ⟨rfl, hb7⟩; rw [H4.out]; have V7 := Lib.hid (V6.out.go hb7); have B7 := Lib.hid (B6.out.trans (Off.of_below hb7)); have PL7 := Lib.hid ((PL.out.below hb7).more hb7.size); clear hb7)
              | (go_at_call 136; refine (allUnderRoot_any V7.out (by have := HN.out; omega) (chn_of (fun p hp => (pts_ok H1.out (List.all_eq_true.1 H2.out) p hp).2.1) (stray_none H4.out)) (key_lt (fun p hp => (pts_ok H1.out (List.all_eq_true.1 H2.out) p hp).1))).mono ?_; rintro e w8 ⟨rfl, hb8⟩; rw [H5.out]; have V8 := Lib.hid (V7.out.go hb8); have B8 := Lib.hid (B7.out.trans (Off.of_below hb8)); have PL8 := Lib.hid ((PL7.out.below hb8).more hb8.size); clear hb8; have d4 : w8.cell? ⟨g, 4, none⟩ = some (.bool false) := V8.out.c.cells.2.1; have f4 := V8.out.c.fz 4))
            go_end0
            have hno : rgt L = false := HRE.out
            exact ⟨rfl, ⟨_, _, _, _, _, by rw [hno]; exact V8.out.c.set4 _⟩, fun h => by (rw [hno] at h; cases h), B8.out.trans (off_set (X := fun j => j = g) _ _ _ rfl)⟩
          · go_wp2_with (first
              | (go_at_call 60; refine HCK.out.mono ?_; rintro e w5 ⟨rfl, hb5⟩; have V5 := Lib.hid (HVW.out.go hb5); have B5 := Lib.hid (HBL.out.trans (Off.of_below hb5)); have D5 := Lib.hid (HD4.out.below (hb5.mono (Nat.le_of_lt HVW.out.c.lt))); clear hb5)
              | (go_at_call 133; refine (takeAll_any L A n c V5.out HN.out hm D5.out (rt_sizes H1.out)).mono ?_; rintro e w6 ⟨pv, rfl, hc6, hm6, ho6⟩; rw [H2.out]; have C6 := Lib.hid hc6; have M6 := Lib.hid (fun h => hm6 (H2.out.trans h)); have B6 := Lib.hid (B5.out.trans' ho6 (fun j hj => by have h1 := V5.out.o; have h2 := HWB.out; rcases hj with h | h | h | h | h <;> omega)); clear hc6 hm6 ho6; obtain ⟨hms, hpa⟩ := M6.out rfl; obtain ⟨A7, c7, rfl, hl7, hc7, hp7⟩ := hpa.ls; have PL := Lib.hid hp7; have PC := Lib.hid hl7; have PD := Lib.hid hc7; have V6 := Lib.hid (show VW w6 g bi be bn ba (3 * L.length) (.slice A n c) o1 o2 o3 (.bool false) (.slice A7 (pts L).length c7) (vo (pts L)) from ⟨C6.out, hms, V5.out.o⟩); have PO := Lib.hid (show ∀ b o, A7 = some ⟨b, o, none⟩ → w.heap.size ≤ b from fun b o e => by have h1 := (hpa.own b (by rw [e]; rfl)).1; have h2 := B5.out.size; omega); clear hms hpa hp7 hl7 hc7; have c6 : w6.cell? ⟨g, 6, none⟩ = some (.map (some bi)) := V6.out.c.cells.2.2.2.1; have c5 : w6.cell? ⟨g, 5, none⟩ = some (.slice A7 (pts L).length c7) := V6.out.c.cells.2.2.1; obtain ⟨nr, hnr⟩ : ∃ nr, ((vo (pts L)).ino 1).getD zIn = nr := ⟨_, rfl⟩; obtain ⟨nK, nM, nL, nS, nT⟩ := nr; have hlk : (Instr.lookup 95 (.map (some bi)) (.int .u32 1) false).run Tryz.prog w6 = .ok (.agg #[.int .u8 nK, .int .u16 nM, .int .u32 nL, .int .u32 nS, .string nT]) w6 := (by have := lookI (j := 1) V6.out.m.i (by decide); rw [hnr] at this; exact this); have hk1 : ((nK : Int) == 1) = true := (by rw [eqz1 rfl, ← H3.out, kind_get, hnr]); clear hnr; have hfd : ∀ wx : World, (Instr.field 33 (.agg #[.int .u8 nK, .int .u16 nM, .int .u32 nL, .int .u32 nS, .string nT]) 0).run Tryz.prog wx = .ok (.int .u8 nK) wx := (fun _ => by kernel_rfl))
              | (go_at_call 134; refine (containsFunc_any V6.out A7 _ c7 rfl (by rw [pts_length]; have := HN.out; omega) PL.out (fun p hp => (pts_ok H1.out (List.all_eq_true.1 H2.out) p hp).1)).mono ?_; rintro e w7 ⟨rfl, hb7⟩; rw [H4.out]; have V7 := Lib.hid (V6.out.go hb7); have B7 := Lib.hid (B6.out.trans (Off.of_below hb7)); have PL7 := Lib.hid ((PL.out.below hb7).more hb7.size); clear hb7)
              | (go_at_call 136; refine (allUnderRoot_any V7.out (by have := HN.out; omega) (chn_of (fun p hp => (pts_ok H1.out (List.all_eq_true.1 H2.out) p hp).2.1) (stray_none H4.out)) (key_lt (fun p hp => (pts_ok H1.out (List.all_eq_true.1 H2.out) p hp).1))).mono ?_; rintro e w8 ⟨rfl, hb8⟩; rw [H5.out]; have V8 := Lib.hid (V7.out.go hb8); have B8 := Lib.hid (B7.out.trans (Off.of_below hb8)); have PL8 := Lib.hid ((PL7.out.below hb8).more hb8.size); clear hb8; have d4 : w8.cell? ⟨g, 4, none⟩ = some (.bool false) := V8.out.c.cells.2.1; have f4 := V8.out.c.fz 4))
            go_end0
            have hyes : rgt L = true := HRE.out
            have hoc := off_set (X := fun j => j = g) w8 ⟨g, 4, none⟩ (.bool true) rfl
            refine ⟨rfl, ⟨_, _, _, _, _, by rw [hyes]; exact V8.out.c.set4 _⟩, fun _ => ⟨bi, be, bn, ba, A7, c7, ⟨by have := V8.out.c.set4 (.bool true); rw [pts_length] at this; exact this, V8.out.m.keep (fun j hj => hoc.block j (V8.out.m.xlt j hj) (fun e => V8.out.off (e ▸ hj))), V8.out.o⟩, by have := PC.out; rwa [pts_length] at this, PD.out, ls_off PL8.out (fun b o e => by have h1 := PO.out b o e; have h2 := HGW.out; omega) hoc, PO.out, HWB.out, HGW.out⟩, B8.out.trans (off_set (X := fun j => j = g) _ _ _ rfl)⟩
        · go_wp2_with (first
            | (go_at_call 60; refine HCK.out.mono ?_; rintro e w5 ⟨rfl, hb5⟩; have V5 := Lib.hid (HVW.out.go hb5); have B5 := Lib.hid (HBL.out.trans (Off.of_below hb5)); have D5 := Lib.hid (HD4.out.below (hb5.mono (Nat.le_of_lt HVW.out.c.lt))); clear hb5)
            | (go_at_call 133; refine (takeAll_any L A n c V5.out HN.out hm D5.out (rt_sizes H1.out)).mono ?_; rintro e w6 ⟨pv, rfl, hc6, hm6, ho6⟩; rw [H2.out]; have C6 := Lib.hid hc6; have M6 := Lib.hid (fun h => hm6 (H2.out.trans h)); have B6 := Lib.hid (B5.out.trans' ho6 (fun j hj => by have h1 := V5.out.o; have h2 := HWB.out; rcases hj with h | h | h | h | h <;> omega)); clear hc6 hm6 ho6; obtain ⟨hms, hpa⟩ := M6.out rfl; obtain ⟨A7, c7, rfl, hl7, hc7, hp7⟩ := hpa.ls; have PL := Lib.hid hp7; have PC := Lib.hid hl7; have PD := Lib.hid hc7; have V6 := Lib.hid (show VW w6 g bi be bn ba (3 * L.length) (.slice A n c) o1 o2 o3 (.bool false) (.slice A7 (pts L).length c7) (vo (pts L)) from ⟨C6.out, hms, V5.out.o⟩); have PO := Lib.hid (show ∀ b o, A7 = some ⟨b, o, none⟩ → w.heap.size ≤ b from fun b o e => by have h1 := (hpa.own b (by rw [e]; rfl)).1; have h2 := B5.out.size; omega); clear hms hpa hp7 hl7 hc7; have c6 : w6.cell? ⟨g, 6, none⟩ = some (.map (some bi)) := V6.out.c.cells.2.2.2.1; have c5 : w6.cell? ⟨g, 5, none⟩ = some (.slice A7 (pts L).length c7) := V6.out.c.cells.2.2.1; obtain ⟨nr, hnr⟩ : ∃ nr, ((vo (pts L)).ino 1).getD zIn = nr := ⟨_, rfl⟩; obtain ⟨nK, nM, nL, nS, nT⟩ := nr; have hlk : (Instr.lookup 95 (.map (some bi)) (.int .u32 1) false).run Tryz.prog w6 = .ok (.agg #[.int .u8 nK, .int .u16 nM, .int .u32 nL, .int .u32 nS, .string nT]) w6 := (by have := lookI (j := 1) V6.out.m.i (by decide); rw [hnr] at this; exact this); have hk1 : ((nK : Int) == 1) = true := (by rw [eqz1 rfl, ← H3.out, kind_get, hnr]); clear hnr; have hfd : ∀ wx : World, (Instr.field 33 (.agg #[.int .u8 nK, .int .u16 nM, .int .u32 nL, .int .u32 nS, .string nT]) 0).run Tryz.prog wx = .ok (.int .u8 nK) wx := (fun _ => by kernel_rfl))
            | (go_at_call 134; refine (containsFunc_any V6.out A7 _ c7 rfl (by rw [pts_length]; have := HN.out; omega) PL.out (fun p hp => (pts_ok H1.out (List.all_eq_true.1 H2.out) p hp).1)).mono ?_; rintro e w7 ⟨rfl, hb7⟩; rw [H4.out]; have V7 := Lib.hid (V6.out.go hb7); have B7 := Lib.hid (B6.out.trans (Off.of_below hb7)); have PL7 := Lib.hid ((PL.out.below hb7).more hb7.size); clear hb7; have d4 : w7.cell? ⟨g, 4, none⟩ = some (.bool false) := V7.out.c.cells.2.1; have f4 := V7.out.c.fz 4))
          go_end0
          have hno : rgt L = false := HRE.out
          exact ⟨rfl, ⟨_, _, _, _, _, by rw [hno]; exact V7.out.c.set4 _⟩, fun h => by (rw [hno] at h; cases h), B7.out.trans (off_set (X := fun j => j = g) _ _ _ rfl)⟩
end Go.Proofs.YtjkmfonngbendaaGreatDoor.Di
/- sync.Once of a method value, asked for the first time: one goroutine. -/
namespace Go.Proofs.YtjkmfonngbendaaGreatDoor.Dq
set_option linter.unusedVariables false
set_option linter.unusedSimpArgs false
open Go.ChangeShapes Go.WideShapes Go.ChangeAt Go.RowKit
theorem once_disable (w : World) : (callFunc 213 #[]).run Tryz.prog w = .ok (.value (.tuple #[])) w := run_call_mark0 Tryz.func213 (by kernel_rfl) (by kernel_rfl) (by kernel_rfl) .disable (by kernel_rfl) w
theorem once_enable (w : World) : (callFunc 215 #[]).run Tryz.prog w = .ok (.value (.tuple #[])) w := run_call_mark0 Tryz.func215 (by kernel_rfl) (by kernel_rfl) (by kernel_rfl) .enable (by kernel_rfl) w
theorem once_acquire (a : Addr) (w : World) : (callFunc 216 #[.pointer (some a)]).run Tryz.prog w = .ok (.value (.tuple #[])) w := run_call_marked Tryz.func216 (by kernel_rfl) (by kernel_rfl) (by kernel_rfl) .acquire (by kernel_rfl) a w
theorem once_release (a : Addr) (w : World) : (callFunc 218 #[.pointer (some a)]).run Tryz.prog w = .ok (.value (.tuple #[])) w := run_call_marked Tryz.func218 (by kernel_rfl) (by kernel_rfl) (by kernel_rfl) .releaseMerge (by kernel_rfl) a w
/-- '(*sync/atomic.Bool).Store(true)', entered as a deferred call -/
theorem store_deferred (a : Addr) (x : Value) (u : FrameMode) (w : World) (hc : w.cell? a = some x) (hz : w.frozen? a = false) :
    CallsD Tryz.prog 177 #[.pointer (some a), .bool true] u w fun e u' w' => u' = u ∧ (e = .returned (.tuple #[]) ∧ w' = w.drew.setCell a (.int .u32 1)) := by
  have hc' : w.drew.cell? a = some x := by go_simp
  have hz' : w.drew.frozen? a = false := by go_simp
  have hst := run_call_store (P := Tryz.prog) Tryz.func198 (by kernel_rfl) (by kernel_rfl) (by kernel_rfl) (by kernel_rfl) (k := .u32) (y := 1) hc' hz'
  go_enter_d Tryz.func177, Tryz.ntmps177
  go_wp2
  go_region_calls
  all_goals (go_end0; exact ⟨rfl, rfl⟩)
set_option maxRecDepth 100000 in
/-- '(*sync.Mutex).Unlock', entered as a deferred call, the lock held and nobody waiting -/
theorem unlock_deferred (a : Addr) (u : FrameMode) (w : World) (hc : w.cell? a = some (.int .i32 1)) (hz : w.frozen? a = false) :
    CallsD Tryz.prog 176 #[.pointer (some a)] u w fun e u' w' => u' = u ∧ (e = .returned (.tuple #[]) ∧ w' = w.setCell a (.int .i32 0)) := by
  have hd := once_disable
  have he := once_enable
  have hr := once_release
  have hadd := run_call_add (P := Tryz.prog) Tryz.func219 (by kernel_rfl) (by kernel_rfl) (by kernel_rfl) .i32 (by kernel_rfl) (y := -1) (s := 0) hc hz (by simp [go_sem]; rfl)
  have hcv0 := run_convert_to_unsafe (P := Tryz.prog) (src := 258) (dst := 249) Tryz.underlying258 Tryz.underlying249 (by kernel_rfl) hc
  have hcv1 := run_convert_to_unsafe (P := Tryz.prog) (src := 266) (dst := 249) Tryz.underlying266 Tryz.underlying249 (by kernel_rfl) hc
  go_enter_d Tryz.func176, Tryz.ntmps176
  go_wp2
  go_end0
  go_wp2
set_option maxRecDepth 100000 in
/-- '(*sync.Mutex).Lock', the lock free -/
theorem lock_free (a : Addr) (w : World) (hc : w.cell? a = some (.int .i32 0)) (hz : w.frozen? a = false) :
    Calls Tryz.prog 175 #[.pointer (some a)] w fun e w' => e = .returned (.tuple #[]) ∧ w' = w.setCell a (.int .i32 1) := by
  have hd := once_disable
  have he := once_enable
  have ha := once_acquire
  have hcas := run_call_cas_hit (P := Tryz.prog) Tryz.func214 (by kernel_rfl) (by kernel_rfl) (by kernel_rfl) .i32 (by kernel_rfl) (y := 1) hc hz
  have hc' : (w.setCell a (.int .i32 1)).cell? a = some (.int .i32 1) := World.cell?_setCell_same w a _ hc
  have hcv0 := run_convert_to_unsafe (P := Tryz.prog) (src := 258) (dst := 249) Tryz.underlying258 Tryz.underlying249 (by kernel_rfl) hc'
  have hcv1 := run_convert_to_unsafe (P := Tryz.prog) (src := 266) (dst := 249) Tryz.underlying266 Tryz.underlying249 (by kernel_rfl) hc'
  go_enter Tryz.func175, Tryz.ntmps175
  go_wp2
  first | go_end0 | (simp only [Exit.inBlock, Exit.then]; refine bodyPost_ret (results_none rfl _ _ _) rfl ?_) | refine bodyPost_ret (results_none rfl _ _ _) rfl ?_
  go_wp2
/-- the world behind the method, the once being marked and let go -/
def oncEnd (w1 : World) (g : Nat) : World := (w1.drew.setCell ⟨g, 1, none⟩ (.int .u32 1)).setCell ⟨g, 2, none⟩ (.int .i32 0)
def oncBeg (w : World) (g : Nat) : World := w.setCell ⟨g, 2, none⟩ (.int .i32 1)
/-- the once is held, and not marked -/
def OncHeld (w : World) (g : Nat) : Prop := (w.cell? ⟨g, 1, none⟩ = some (.int .u32 0) ∧ w.cell? ⟨g, 2, none⟩ = some (.int .i32 1)) ∧ w.frozen? ⟨g, 1, none⟩ = false ∧ w.frozen? ⟨g, 2, none⟩ = false
set_option maxRecDepth 100000 in
set_option maxHeartbeats 1600000 in
theorem slow_first (g : Nat) (w : World) (R : World → Prop) (h0 : w.cell? ⟨g, 1, none⟩ = some (.int .u32 0)) (h1 : w.cell? ⟨g, 2, none⟩ = some (.int .i32 0)) (f1 : w.frozen? ⟨g, 2, none⟩ = false)
    (hf : Calls Tryz.prog 87 #[.pointer (some ⟨g, 0, none⟩)] (oncBeg w g) fun e w' => e = .returned (.tuple #[]) ∧ OncHeld w' g ∧ R w') :
    Calls Tryz.prog 132 #[.pointer (some ⟨g, 1, none⟩), .func (.func 87) #[.pointer (some ⟨g, 0, none⟩)] #[]] w fun e w' => e = .returned (.tuple #[]) ∧ ∃ w1, R w1 ∧ w' = oncEnd w1 g := by
  have HF := Lib.hid hf
  clear hf
  have hl := run_call_load (P := Tryz.prog) Tryz.func174 (by kernel_rfl) (by kernel_rfl) (by kernel_rfl) .u32 (by kernel_rfl) (w := oncBeg w g) (a := ⟨g, 1, none⟩) (x := 0) ((World.cell?_setCell_other _ ⟨g, 2, none⟩ ⟨g, 1, none⟩ _ (by simp)).trans h0)
  have hnot : ∀ (x : Bool) (w : World), (Op.unary .not (.bool x)).run Tryz.prog w = .ok (.bool (!x)) w := fun _ _ => rfl
  go_enter_defers Tryz.func132, Tryz.ntmps132
  go_wp2_with (go_at_call 175; refine (lock_free ⟨g, 2, none⟩ _ (by go_simp) (by go_simp)).mono ?_; rintro e w' ⟨rfl, rfl⟩)
  change Calls _ _ _ (oncBeg w g) _
  go_at_call 131
  go_in
  go_wp2_with (first | (go_at_call 87; refine HF.out.mono ?_; rintro e w1 ⟨rfl, hk, hR⟩))
  obtain ⟨⟨k0, k1⟩, g0, g1⟩ := hk
  have HR := Lib.hid hR
  clear hR HF
  refine leaves_cons (f := 177) (args := #[.pointer (some ⟨g, 1, none⟩), .bool true]) (by simp) (by simp [go_sem]) ?_
  refine (store_deferred ⟨g, 1, none⟩ (.int .u32 0) .returning _ k0 g0).mono ?_
  rintro e u' w'' ⟨rfl, rfl, rfl⟩
  refine leaves_cons (f := 176) (args := #[.pointer (some ⟨g, 2, none⟩)]) (by simp [settle]) (by simp [go_sem]) ?_
  refine (unlock_deferred ⟨g, 2, none⟩ _ _ ?_ (by simp [g1])).mono ?_
  · refine (World.cell?_setCell_other _ ⟨g, 1, none⟩ ⟨g, 2, none⟩ _ (by simp)).trans ?_
    rw [World.cell?_drew]
    exact k1
  rintro e u' w'' ⟨rfl, rfl, rfl⟩
  simp [Leaves, settle, results, Tryz.results132]
  exact ⟨w1, HR.out, rfl⟩
set_option maxRecDepth 100000 in
set_option maxHeartbeats 1600000 in
theorem do_first (g : Nat) (w : World) (R : World → Prop) (h0 : w.cell? ⟨g, 1, none⟩ = some (.int .u32 0)) (h1 : w.cell? ⟨g, 2, none⟩ = some (.int .i32 0)) (f1 : w.frozen? ⟨g, 2, none⟩ = false)
    (hf : Calls Tryz.prog 87 #[.pointer (some ⟨g, 0, none⟩)] (oncBeg w g) fun e w' => e = .returned (.tuple #[]) ∧ OncHeld w' g ∧ R w') :
    Calls Tryz.prog 86 #[.pointer (some ⟨g, 1, none⟩), .func (.func 87) #[.pointer (some ⟨g, 0, none⟩)] #[]] w fun e w' => e = .returned (.tuple #[]) ∧ ∃ w1, R w1 ∧ w' = oncEnd w1 g := by
  have hnot : ∀ (x : Bool) (w : World), (Op.unary .not (.bool x)).run Tryz.prog w = .ok (.bool (!x)) w := fun _ _ => rfl
  have hl := run_call_load (P := Tryz.prog) Tryz.func174 (by kernel_rfl) (by kernel_rfl) (by kernel_rfl) .u32 (by kernel_rfl) h0
  have HS := Lib.hid (slow_first g w R h0 h1 f1 hf)
  clear hf
  go_enter Tryz.func86, Tryz.ntmps86
  go_wp2_with (first | (go_at_call 132; refine HS.out.mono ?_; rintro e w' ⟨rfl, w1, hR, rfl⟩) | (go_at_call 131; go_in))
  go_end0
  exact ⟨rfl, w1, hR, rfl⟩
end Go.Proofs.YtjkmfonngbendaaGreatDoor.Dq
/- Contract of package dirs' check: a volume is looked through when it is first asked for. -/
namespace Go.Proofs.YtjkmfonngbendaaGreatDoor.Di
set_option linter.unusedVariables false
set_option linter.unusedSimpArgs false
set_option maxRecDepth 100000
open Go.ChangeShapes Go.WideShapes Go.ChangeAt Go.RowKit
open BigFrame
open Ar Rg
open Ino
open It (Itm)
variable {w w' wr : World} {g bi be bn ba bu N M bb : Nat} {it o1 o2 o3 rv pv m1 m2 m3 m4 v : Value} {s s' : Vo} {ps : List Pt} {U : Nat → Option Unit}
theorem VC.set1 (h : VC w g it o1 o2 o3 rv pv m1 m2 m3 m4) (u : Value) : VC (w.setCell ⟨g, 1, none⟩ u) g it u o2 o3 rv pv m1 m2 m3 m4 := by
  unfold VC at h ⊢
  simp [World.setCell, h, Array.getElem?_modify]
theorem VC.set2 (h : VC w g it o1 o2 o3 rv pv m1 m2 m3 m4) (u : Value) : VC (w.setCell ⟨g, 2, none⟩ u) g it o1 u o3 rv pv m1 m2 m3 m4 := by
  unfold VC at h ⊢
  simp [World.setCell, h, Array.getElem?_modify]
theorem VolAt.off {L : List Itm} {lo : Nat} (h : VolAt w g lo it o1 o2 o3 L) {o1' o2' : Value} (ho : Off (fun j => j = g) w w') (hc : ∀ rv pv m1 m2 m3 m4, VC w g it o1 o2 o3 rv pv m1 m2 m3 m4 → VC w' g it o1' o2' o3 rv pv m1 m2 m3 m4) : VolAt w' g lo it o1' o2' o3 L := by
  obtain ⟨bi, be, bn, ba, A, c, hV, h1, h2, h3, hA, hb, hg⟩ := h
  exact ⟨bi, be, bn, ba, A, c, ⟨hc _ _ _ _ _ _ hV.c, hV.m.keep (fun j hj => ho.block j (hV.m.xlt j hj) (fun e => hV.off (e ▸ hj))), hV.o⟩, h1, h2, ls_off h3 (fun b o e => by have := hA b o e; omega) ho, hA, hb, hg⟩
theorem VolAt.go {L : List Itm} {lo : Nat} (h : VolAt w g lo it o1 o2 o3 L) (hb : Below w.heap.size w w') : VolAt w' g lo it o1 o2 o3 L := by
  obtain ⟨bi, be, bn, ba, A, c, hV, h1, h2, h3, hA⟩ := h
  exact ⟨bi, be, bn, ba, A, c, hV.go hb, h1, h2, (h3.below hb).more hb.size, hA⟩
/-- a block below lo that is not the volume's may turn -/
theorem VolAt.out {L : List Itm} {lo r : Nat} (h : VolAt w g lo it o1 o2 o3 L) (ho : Off (fun j => j = r) w w') (hr : r < lo) (hg : r ≠ g) : VolAt w' g lo it o1 o2 o3 L := by
  obtain ⟨bi, be, bn, ba, A, c, hV, h1, h2, h3, hA, hb, hgl⟩ := h
  have hv := hV.o
  exact ⟨bi, be, bn, ba, A, c, ⟨hV.c.keep (ho.block g hV.c.lt (fun e => hg e.symm)), hV.m.keep (fun j hj => ho.block j (hV.m.xlt j hj) (fun e => by rcases hj with h | h | h | h <;> omega)), hV.o⟩, h1, h2, ls_off h3 (fun b o e => by have := hA b o e; omega) ho, hA, hb, hgl⟩
noncomputable def ckE (L : List Itm) : Int := if rgt L then 0 else 9
def CkPost (g : Nat) (it : Value) (L : List Itm) (w : World) (e : Ending) (w' : World) : Prop :=
  e = .returned (.int .i64 (ckE L)) ∧ (rgt L = true → VolAt w' g w.heap.size it (.int .u32 1) (.int .i32 0) (.int .u32 0) L) ∧ Off (fun j => j = g) w w'
set_option maxHeartbeats 2000000 in
theorem check_any (L : List Itm) (A : Option Addr) (n c : Nat) (hC : VC w g (.slice A n c) (.int .u32 0) (.int .i32 0) (.int .u32 0) (.bool false) (.slice none 0 0) m1 m2 m3 m4) (hn : n = L.length) (hm : n ≤ 1048576) (hD : Ls It.enc 2 w g A L) :
    Calls Tryz.prog 45 #[.pointer (some ⟨g, 0, none⟩)] w (CkPost g (.slice A n c) L w) := by
  have hsz0 : (Dq.oncBeg w g).heap.size = w.heap.size := by simp [Dq.oncBeg]
  have HL := Lib.hid (look_any (w := Dq.oncBeg w g) L A n c (hC.set2 (.int .i32 1)) hn hm (hD.below ((Below.refl g w).setCell (Nat.le_refl _) _)))
  have HO := Lib.hid (Dq.do_first g w (fun w1 => (∃ pv m1 m2 m3 m4, VC w1 g (.slice A n c) (.int .u32 0) (.int .i32 1) (.int .u32 0) (.bool (rgt L)) pv m1 m2 m3 m4) ∧ (rgt L = true → VolAt w1 g w.heap.size (.slice A n c) (.int .u32 0) (.int .i32 1) (.int .u32 0) L) ∧ Off (fun j => j = g) w w1) (cell_of_row _ _ 1 _ _ _ hC) (cell_of_row _ _ 2 _ _ _ hC) (hC.fz 2) (HL.out.mono (by
    rintro e w1 ⟨rfl, ⟨pv, m1, m2, m3, m4, hc1⟩, hv1, hb1⟩
    rw [hsz0] at hv1
    exact ⟨rfl, ⟨⟨cell_of_row _ _ 1 _ _ _ hc1, cell_of_row _ _ 2 _ _ _ hc1⟩, hc1.fz 1, hc1.fz 2⟩, ⟨pv, m1, m2, m3, m4, hc1⟩, hv1, (off_set (X := fun j => j = g) w _ _ rfl).trans hb1⟩)))
  clear HL hC hn hD hsz0
  go_enter Tryz.func45, Tryz.ntmps45
  go_wp2_with fail
  refine HO.out.mono ?_
  rintro e w2 ⟨rfl, w1, ⟨⟨pv, m1, m2, m3, m4, hc1⟩, hv1, hb1⟩, rfl⟩
  have hof : Off (fun j => j = g) w1 (Dq.oncEnd w1 g) := (Off.of_below (X := fun j => j = g) (Below.refl _ _).drew).trans ((off_set (X := fun j => j = g) w1.drew ⟨g, 1, none⟩ (.int .u32 1) rfl).trans (off_set (X := fun j => j = g) _ ⟨g, 2, none⟩ (.int .i32 0) rfl))
  have hcc : ∀ rv pv m1 m2 m3 m4, VC w1 g (.slice A n c) (.int .u32 0) (.int .i32 1) (.int .u32 0) rv pv m1 m2 m3 m4 → VC (Dq.oncEnd w1 g) g (.slice A n c) (.int .u32 1) (.int .i32 0) (.int .u32 0) rv pv m1 m2 m3 m4 := fun rv pv m1 m2 m3 m4 h => ((h.keep (w' := w1.drew) rfl).set1 _).set2 _
  have HC2 := Lib.hid (hcc _ _ _ _ _ _ hc1)
  have HV2 := Lib.hid (fun h => (hv1 h).off hof hcc)
  have HB2 := Lib.hid (hb1.trans hof)
  clear hc1 hv1 hb1 hof hcc HO
  generalize Dq.oncEnd w1 g = w2 at *
  have c4 : w2.cell? ⟨g, 4, none⟩ = some (.bool (rgt L)) := HC2.out.cells.2.1
  have HE := Lib.hid (show ckE L = if rgt L then 0 else 9 from rfl)
  clear HC2
  cases hr : rgt L
  · rw [hr] at c4
    have HR := Lib.hid hr
    clear hr
    go_wp2
    go_ret
    exact ⟨by rw [HE.out, HR.out]; rfl, fun h => (by rw [HR.out] at h; cases h), HB2.out⟩
  · rw [hr] at c4
    have HR := Lib.hid hr
    clear hr
    go_wp2
    go_ret
    exact ⟨by rw [HE.out, HR.out]; rfl, fun _ => HV2.out HR.out, HB2.out⟩
end Go.Proofs.YtjkmfonngbendaaGreatDoor.Di
/- Contracts of lists of names, and of the parts of a text between slashes. -/
namespace Go.Proofs.YtjkmfonngbendaaGreatDoor.Ph
set_option linter.unusedVariables false
open Go.ChangeShapes Go.WideShapes Go.ChangeAt Go.RowKit
open BigFrame
open Ar
theorem all_take {D : List ByteArray} {i : Nat} {x : ByteArray} (hx : D[i]? = some x) (h : (D.take i).all nb = true) : (D.take (i + 1)).all nb = nb x := by
  obtain ⟨hi, he⟩ := List.getElem?_eq_some_iff.1 hx
  rw [List.take_succ_eq_append_getElem hi, List.all_append, h, he]
  simp
theorem all_no_of {D : List ByteArray} {i : Nat} {x : ByteArray} (hx : D[i]? = some x) (h : nb x = false) : D.all nb = false := by
  rw [List.all_eq_false]
  exact ⟨x, List.mem_of_getElem? hx, by rw [h]; decide⟩
theorem allNames_any (D : List ByteArray) (A : Option Addr) (n c B : Nat) (hn : n = D.length) (hm : n ≤ 9223372036854775807) (w : World) (hB : B ≤ w.heap.size) (hD : Ls en1 1 w B A D) :
    Calls Tryz.prog 139 #[.slice A n c] w fun e w' => e = .returned (.bool (D.all nb)) ∧ w = w' := by
  have HN := Lib.hid hn
  have HD := Lib.hid hD
  clear hn hD
  go_enter Tryz.func139, Tryz.ntmps139
  go_wp2
  go_loop [7] (fun v => ∃ i : Nat, i ≤ n ∧ v = .int .i64 i ∧ Hid ((D.take i).all nb = true)) (fun v => n - (intOf v).toNat)
  case atStart => exact ⟨0, Nat.zero_le _, rfl, Lib.hid rfl⟩
  case round =>
    obtain ⟨i, hi, rfl, HI⟩ := hrel
    by_cases hlt : i < n
    · obtain ⟨x, hx⟩ : ∃ x, D[i]? = some x := ⟨_, List.getElem?_eq_getElem (by rw [← HN.out]; exact hlt)⟩
      obtain ⟨b, o, hAe, hb, hc⟩ := one_cell HD.out hx
      have hbs : b < w.heap.size := by omega
      clear HD
      subst hAe
      have HX := Lib.hid hx
      have HC := Lib.hid (fun w => name_any x w (fun c w => contains_any x c w))
      clear hx
      cases hq : nb x
      · rw [hq] at HC
        have HE := Lib.hid (all_no_of HX.out hq)
        clear hq HI
        go_wp2_with (go_at_call 80; refine (HC.out _).mono ?_; rintro e w' ⟨rfl, rfl⟩)
        go_ret
        exact ⟨by rw [HE.out]; rfl, rfl⟩
      · rw [hq] at HC
        have HE := Lib.hid ((all_take HX.out (Hid.out HI)).trans hq)
        clear hq HI
        go_wp2_with (go_at_call 80; refine (HC.out _).mono ?_; rintro e w' ⟨rfl, rfl⟩)
        go_round
        case rel => exact ⟨i + 1, by omega, by go_num, HE⟩
        case measure => simp [intOf]; omega
    · obtain rfl : i = n := by omega
      rw [List.take_of_length_le (by rw [← HN.out]; exact Nat.le_refl _)] at HI
      go_wp2
      go_ret
      exact ⟨by rw [Hid.out HI]; rfl, rfl⟩
abbrev MkS (w wr : World) (v : Value) (D : List ByteArray) : Prop := Mk en1 1 9 w wr v D
theorem infoS : (Tryz.prog.info? 9).map (fun i => (i.zero, i.size, i.bytes)) = some (some (.string ByteArray.empty), 1, 16) := by kernel_rfl
theorem catS {ops : Array Oper} {rest : List Oper} {o : Oper} {a : Act} {Q : Exit → Act → World → Prop} {w wr : World} {v : Value} {D : List ByteArray} (hM : MkS w wr v D) (E : List ByteArray) (A : Option Addr) (m c : Nat) {B : Nat} (hm : m = E.length) (hL : Ls en1 1 wr B A E) (hlen : D.length + m ≤ 8796093022208)
    (hgd : o.guard = none) (s x : Operand) (ho : o.op = .call { callee := .builtin .append, args := #[s, x], argTypes := #[49, 49] }) (hs : a.eval s = v) (hx : a.eval x = .slice A m c)
    (h : ∀ v' w', MkS w w' v' (D ++ E) → wr.grownBy w' v.ownBlock → wpList Tryz.prog ops Q rest (a.put o.dst v') w') : wpList Tryz.prog ops Q (o :: rest) a wr := by
  obtain ⟨i0, hi, hz0, hz1, hz2⟩ := info_parts infoS
  exact wpList_cat 49 i0 _ 16 Tryz.underlying49 hi hz0 hz1 hz2 rfl (by decide) en1_len en1_one hM m c hm hL (by unfold maxLen; omega) (by omega) hgd s x ho hs hx h
theorem ls_new_at {α : Type} {en : α → List Value} {k : Nat} (w : World) (x : α) (e : TypeId) {N : Nat} (hN : w.heap.size = N) : Ls en k (w.alloc (.cells (en x).toArray e)) (N + 1) (some ⟨N, 0, none⟩) [x] := by
  subst hN
  exact Ls.new _ x _ _ (Nat.lt_succ_self _)
/-- what stands between slashes, as strings -/
def bsL (l : List UInt8) : ByteArray := ⟨l.toArray⟩
def cutB (s : ByteArray) : List ByteArray := (cut s.data.toList).map bsL
theorem bsL_data (s : ByteArray) : bsL s.data.toList = s := rfl
theorem bsL_list (l : List UInt8) : (bsL l).data.toList = l := rfl
theorem extract_list (s : ByteArray) (i j : Nat) : (s.extract i j).data.toList = (s.data.toList.drop i).take (j - i) := by
  rw [ByteArray.data_extract, Array.toList_extract, List.extract_eq_take_drop]
theorem cutB_none {s : ByteArray} (h : s.data.toList.contains 47 = false) : cutB s = [s] := by
  unfold cutB
  rw [cut_none (by intro hm; rw [← List.contains_iff_mem] at hm; rw [h] at hm; cases hm)]
  rfl
theorem cutB_at {s : ByteArray} {i : Nat} (hi : i < s.size) (h : (s.data.toList.take i).contains 47 = false) (hc : (s[i] == 47) = true) : cutB s = s.extract 0 i :: cutB (s.extract (i + 1) s.size) := by
  have hl : s.data.toList = s.data.toList.take i ++ 47 :: s.data.toList.drop (i + 1) := by
    have hi' : i < s.data.toList.length := by simpa using hi
    have : s.data.toList[i] = 47 := by
      rw [beq_iff_eq] at hc
      exact hc
    rw [← this, List.getElem_cons_drop, List.take_append_drop]
  have hn : 47 ∉ s.data.toList.take i := by intro hm; rw [← List.contains_iff_mem] at hm; rw [h] at hm; cases hm
  unfold cutB
  have e1 : cut s.data.toList = s.data.toList.take i :: cut (s.data.toList.drop (i + 1)) := by
    conv => lhs; rw [hl]
    rw [cut_app _ hn]
  rw [e1, List.map_cons, extract_list, List.take_of_length_le (i := s.size - (i + 1)) (by rw [List.length_drop, Array.length_toList]; exact Nat.le_refl _)]
  congr 1
  apply ByteArray.ext
  apply Array.toList_inj.1
  rw [bsL_list, extract_list]
  simp
def strSz : Value → Nat
  | .string t => t.size
  | _ => 0
set_option maxRecDepth 100000 in
set_option maxHeartbeats 1000000 in
theorem parts_any (s : ByteArray) (hs : s.size ≤ 1048576) (w : World) :
    Calls Tryz.prog 138 #[.string s] w fun e w' => ∃ v, e = .returned v ∧ MkS w w' v (cutB s) := by
  go_enter Tryz.func138, Tryz.ntmps138
  go_wp2_with fail
  go_step3
  go_wp2_with fail
  go_step3
  go_wp2_with fail
  go_loopw [0, 3] (fun sv lv wr => ∃ (t : ByteArray) (D : List ByteArray), sv = .string t ∧ Hid (cutB s = D ++ cutB t) ∧ D.length + t.size ≤ 1048576 ∧ Hid (MkS w wr lv D)) (fun sv _ _ => strSz sv)
  case atStart => exact ⟨s, [], rfl, Lib.hid rfl, by simpa using hs, Lib.hid (Mk.nil (Below.refl _ _))⟩
  case round =>
    obtain ⟨t, D, rfl, HC, hD, HM⟩ := hrel
    go_wp2_with fail
    go_loopw [0, 3, 7] (fun sv lv v wr2 => ∃ i : Nat, sv = .string t ∧ i ≤ t.size ∧ v = .int .i64 i ∧ Hid ((t.data.toList.take i).contains 47 = false) ∧ Hid (MkS w wr2 lv D)) (fun _ _ v _ => t.size - (intOf v).toNat)
    case atStart => exact ⟨0, rfl, Nat.zero_le _, by go_num, Lib.hid rfl, HM⟩
    case round =>
      obtain ⟨i, rfl, hi, rfl, HI, HM2⟩ := hrel
      clear HM
      by_cases hlt : i < t.size
      · have h47 := has_take (c := 47) hlt
        rw [Hid.out HI, Bool.false_or] at h47
        cases b47 : (t[i] == 47)
        · have c47 : ((t[i].toNat : Int) == (((⟨#[47]⟩ : ByteArray)[0]'(by decide)).toNat : Int)) = false := byte_ne (c := (⟨#[47]⟩ : ByteArray)[0]'(by decide)) b47
          have HI2 := Lib.hid (h47.trans b47)
          clear h47 b47 HI
          go_wp2_with fail
          go_quiet (fail)
          go_wp2_with fail
          refine ⟨⟨i + 1, rfl, by omega, by go_num, HI2, Lib.hid ((Hid.out HM2).drewN nq)⟩, ?_⟩
          simp [intOf]
          omega
        · have c47 : ((t[i].toNat : Int) == (((⟨#[47]⟩ : ByteArray)[0]'(by decide)).toNat : Int)) = true := byte_eq (c := (⟨#[47]⟩ : ByteArray)[0]'(by decide)) b47
          have HC2 := Lib.hid (show cutB s = (D ++ [t.extract 0 i]) ++ cutB (t.extract (i + 1) t.size) by rw [Hid.out HC, cutB_at hlt (Hid.out HI) b47, List.append_assoc]; rfl)
          clear h47 b47 HI
          go_wp2_with fail
          go_quiet (fail)
          have HM3 := Lib.hid ((Hid.out HM2).drewN nq)
          clear HM2
          generalize World.drewN wr nq = W3 at *
          go_wp2_with (at_builtin; refine catS (HM3.out.alloc _) [t.extract 0 i] _ 1 1 rfl (Ls.new _ _ _ _ (Nat.lt_succ_self _)) (by omega) rfl _ _ rfl rfl rfl ?_; intro v3 w3 hM hG; have HM4 := Lib.hid hM; clear hM hG)
          refine ⟨⟨t.extract (i + 1) t.size, D ++ [t.extract 0 i], rfl, HC2, ?_, HM4⟩, ?_⟩
          · rw [List.length_append, ByteArray.size_extract]; simp; omega
          · show (t.extract (i + 1) t.size).size < t.size
            rw [ByteArray.size_extract]; omega
      · obtain rfl : i = t.size := by omega
        rw [List.take_of_length_le (by simp)] at HI
        have HC2 := Lib.hid (show D ++ [t] = cutB s by rw [Hid.out HC, cutB_none (Hid.out HI)])
        clear HI
        go_wp2_with (at_builtin; refine catS ((Hid.out HM2).alloc _) [t] _ 1 1 rfl (Ls.new _ _ _ _ (Nat.lt_succ_self _)) (by omega) rfl _ _ rfl rfl rfl ?_; intro v3 w3 hM hG; have HM4 := Lib.hid hM; clear hM hG)
        rw [Exit.noGoto_ret]
        go_ret
        exact ⟨_, rfl, by rw [← HC2.out]; exact HM4.out⟩
end Go.Proofs.YtjkmfonngbendaaGreatDoor.Ph
/- Contracts of the two ways in which a path is taken apart. -/
namespace Go.Proofs.YtjkmfonngbendaaGreatDoor.Ph
set_option linter.unusedVariables false
open Go.ChangeShapes Go.WideShapes Go.ChangeAt Go.RowKit
open BigFrame
open Ar
/-- a path's names, as strings, and which error -/
def spB (p : ByteArray) : List ByteArray := (spN p.data.toList).map bsL
def spX (p : ByteArray) : Int := spE p.data.toList
theorem map_all (l : List (List UInt8)) : (l.map bsL).all nb = l.all nm := by
  induction l with
  | nil => rfl
  | cons x r ih => rw [List.map_cons, List.all_cons, List.all_cons, ih]; rfl
theorem sz_len (p : ByteArray) : p.data.toList.length = p.size := by rw [Array.length_toList]; rfl
theorem sp_long {p : ByteArray} (h : 256 < p.size) : spX p = 2 ∧ spB p = [] := by
  have h1 : 256 < p.data.toList.length := by rw [sz_len]; exact h
  have e : spX p = 2 := by unfold spX spE; rw [if_pos h1]
  refine ⟨e, ?_⟩
  unfold spB
  rw [sp_err (by unfold spX at e; rw [e]; decide)]; rfl
theorem sp_root {p : ByteArray} (h : p.toList = [47]) : spX p = 0 ∧ spB p = [] := by
  rw [tl] at h
  unfold spX spB
  rw [h]
  exact ⟨rfl, rfl⟩
theorem sp_no {p : ByteArray} (h1 : p.size ≤ 256) (h2 : ¬ p.toList = [47]) (h3 : p.data.toList.head? ≠ some 47) : spX p = 10 ∧ spB p = [] := by
  rw [tl] at h2
  have e : spX p = 10 := by unfold spX spE; rw [if_neg (by rw [sz_len]; omega), if_neg h2, if_pos (.inl h3)]
  refine ⟨e, ?_⟩
  unfold spB
  rw [sp_err (by unfold spX at e; rw [e]; decide)]; rfl
theorem behind_cut {p : ByteArray} : cutB (p.extract 1 p.size) = (cut p.data.toList.tail).map bsL := by
  unfold cutB
  rw [extract_list, List.take_of_length_le (by rw [List.length_drop, Array.length_toList]; exact Nat.le_refl _), List.drop_one]
theorem sp_bad {p : ByteArray} (h1 : p.size ≤ 256) (h2 : ¬ p.toList = [47]) (h4 : (cutB (p.extract 1 p.size)).all nb = false) : spX p = 10 ∧ spB p = [] := by
  rw [tl] at h2
  rw [behind_cut, map_all] at h4
  have e : spX p = 10 := by unfold spX spE; rw [if_neg (by rw [sz_len]; omega), if_neg h2, if_pos (.inr h4)]
  refine ⟨e, ?_⟩
  unfold spB
  rw [sp_err (by unfold spX at e; rw [e]; decide)]; rfl
theorem sp_yes {p : ByteArray} (h1 : p.size ≤ 256) (h2 : ¬ p.toList = [47]) (h3 : p.data.toList.head? = some 47) (h4 : (cutB (p.extract 1 p.size)).all nb = true) : spX p = 0 ∧ spB p = cutB (p.extract 1 p.size) := by
  rw [tl] at h2
  rw [behind_cut, map_all] at h4
  have hl : ¬ 256 < p.data.toList.length := by rw [sz_len]; omega
  have hno : ¬ (p.data.toList.head? ≠ some 47 ∨ (cut p.data.toList.tail).all nm = false) := by
    rintro (h | h)
    · exact h h3
    · rw [h4] at h; cases h
  unfold spX spB spE spN
  rw [if_neg hl, if_neg h2, if_neg hno, if_neg (by rintro (h | h | h); exact hl h; exact h2 h; exact hno h), behind_cut]
  exact ⟨rfl, rfl⟩
theorem behind_size (p : ByteArray) : (behind p).size ≤ p.size := by
  unfold behind
  split
  · rw [ByteArray.size_extract]; omega
  · exact Nat.le_refl _
def SplitPost (w : World) (p : ByteArray) (e : Ending) (w' : World) : Prop := ∃ v, e = .returned (.tuple #[v, .int .i64 (spX p)]) ∧ MkS w w' v (spB p)
theorem SplitPost.no {w w' : World} {p : ByteArray} {x : Int} (h : spX p = x ∧ spB p = []) (hb : Below w.heap.size w w') : SplitPost w p (.returned (.tuple #[.slice none 0 0, .int .i64 x])) w' := by
  refine ⟨.slice none 0 0, by rw [h.1], ?_⟩
  rw [h.2]
  exact Mk.nil hb
set_option maxHeartbeats 1000000 in
theorem split_any (p : ByteArray) (hp : p.size ≤ maxLen) (w : World) : Calls Tryz.prog 88 #[.string p] w (SplitPost w p) := by
  unfold maxLen at hp
  by_cases h1 : p.size ≤ 256
  · have d1 : decide (256 < (p.size : Int)) = false := by simp; omega
    by_cases h2 : p.toList = [47]
    · have HS := Lib.hid (sp_root h2)
      have e2 : (p.toList == [47]) = true := by rw [h2]; rfl
      go_enter Tryz.func88, Tryz.ntmps88
      go_wp2
      go_ret2
      exact SplitPost.no HS.out (Below.refl _ _)
    · have e2 : (p.toList == [47]) = false := by simpa using h2
      cases h3 : slashed p
      · have HS := Lib.hid (sp_no h1 h2 (by intro h; unfold slashed at h3; rw [h] at h3; simp at h3))
        have HC := Lib.hid (cutPrefix_any p w)
        rw [h3] at HC
        have hbz := behind_size p
        clear h3 h2
        go_enter Tryz.func88, Tryz.ntmps88
        go_wp2_with (first
          | (go_at_call 137; refine HC.out.mono ?_; rintro e w' ⟨rfl, rfl⟩)
          | (go_at_call 138; refine (parts_any _ (by omega) _).mono ?_; rintro e w2 ⟨v, rfl, hM⟩; have HM := Lib.hid hM; clear hM))
        go_ret2
        exact SplitPost.no HS.out HM.out.2
      · have hb : behind p = p.extract 1 p.size := by unfold behind; rw [if_pos h3]
        have hh : p.data.toList.head? = some 47 := by unfold slashed at h3; rwa [beq_iff_eq] at h3
        have HC := Lib.hid (cutPrefix_any p w)
        rw [h3, hb] at HC
        have hbz : (p.extract 1 p.size).size ≤ 256 := by rw [ByteArray.size_extract]; omega
        have HY := Lib.hid (sp_yes h1 h2 hh)
        have HB := Lib.hid (sp_bad h1 h2)
        clear h3 h2 hb hh
        go_enter Tryz.func88, Tryz.ntmps88
        go_wp2_with (go_at_call 137; refine HC.out.mono ?_; rintro e w' ⟨rfl, rfl⟩)
        refine (parts_any _ (by omega) _).mono ?_
        rintro e w2 ⟨v, rfl, hM⟩
        obtain ⟨A, c, rfl, hc1, hc2, hL⟩ := hM.ls en1_len
        have HM := Lib.hid hM
        have HL := Lib.hid hL
        obtain ⟨m, hm⟩ : ∃ m, m = (cutB (p.extract 1 p.size)).length := ⟨_, rfl⟩
        rw [← hm] at hc1
        unfold maxLen at hc2
        have HA := Lib.hid (allNames_any (cutB (p.extract 1 p.size)) A m c w2.heap.size hm (by omega) w2 (Nat.le_refl _) hL)
        rw [← hm] at HM
        rw [← hm]
        clear hM hL HL hm
        cases hq : (cutB (p.extract 1 p.size)).all nb
        · rw [hq] at HA
          have HS := Lib.hid (HB.out hq)
          clear hq HB HY
          go_wp2_with (go_at_call 139; refine HA.out.mono ?_; rintro e w' ⟨rfl, rfl⟩)
          go_ret2
          exact SplitPost.no HS.out HM.out.2
        · rw [hq] at HA
          have HS := Lib.hid (HY.out hq)
          clear hq HB HY
          go_wp2_with (go_at_call 139; refine HA.out.mono ?_; rintro e w' ⟨rfl, rfl⟩)
          go_ret2
          refine ⟨_, by rw [HS.out.1]; rfl, ?_⟩
          rw [HS.out.2]
          exact HM.out
  · have d1 : decide (256 < (p.size : Int)) = true := by simp; omega
    have HS := Lib.hid (sp_long (p := p) (by omega))
    go_enter Tryz.func88, Tryz.ntmps88
    go_wp2
    go_ret2
    exact SplitPost.no HS.out (Below.refl _ _)
end Go.Proofs.YtjkmfonngbendaaGreatDoor.Ph
/- Walking in a volume, as plain data. No walk of code here. -/
namespace Go.Proofs.YtjkmfonngbendaaGreatDoor.Di
set_option linter.unusedVariables false
set_option linter.unusedSimpArgs false
open Ino
open It (Itm)
open Ph (nb spB spX)
def tgtOf (s : Vo) (i : Nat) : ByteArray := match s.ino i with | some n => n.T | none => ByteArray.empty
/-- goes along names up to a link; nx: what comes then -/
def wkN (s : Vo) (fo : Bool) (nx : ByteArray → List ByteArray → Nat × Int) : Nat → List ByteArray → Nat × Int
  | a, [] => (a, 0)
  | a, x :: xs => if kind s a ≠ 1 then (0, 12) else
    match s.ent ⟨2, a, x, 0⟩ with
    | none => (0, 5)
    | some j => if (decide (kind s j ≠ 3) || (xs.isEmpty && !fo)) = true then wkN s fo nx j xs else nx (tgtOf s j) xs
/-- r: how many links may still be gone along -/
def wkL (s : Vo) (fo : Bool) : Nat → Nat → List ByteArray → Nat × Int
  | 0, a, xs => wkN s fo (fun _ _ => (0, 15)) a xs
  | r + 1, a, xs => wkN s fo (fun t ys => if spX t = 0 then wkL s fo r 1 (spB t ++ ys) else (0, spX t)) a xs
theorem wkL_nil (s : Vo) (fo : Bool) (r a : Nat) : wkL s fo r a [] = (a, 0) := by cases r <;> rfl
theorem wkL_cons (s : Vo) (fo : Bool) (r a : Nat) (x : ByteArray) (xs : List ByteArray) : wkL s fo r a (x :: xs) = if kind s a ≠ 1 then (0, 12) else
    match s.ent ⟨2, a, x, 0⟩ with
    | none => (0, 5)
    | some j => if (decide (kind s j ≠ 3) || (xs.isEmpty && !fo)) = true then wkL s fo r j xs else
      match r with
      | 0 => (0, 15)
      | r + 1 => if spX (tgtOf s j) = 0 then wkL s fo r 1 (spB (tgtOf s j) ++ xs) else (0, spX (tgtOf s j)) := by cases r <;> rfl
/-- one name more, at whose end no link is followed -/
def one (s : Vo) (y : ByteArray) (p : Nat × Int) : Nat × Int := if p.2 = 0 then (if kind s p.1 ≠ 1 then (0, 12) else match s.ent ⟨2, p.1, y, 0⟩ with | none => (0, 5) | some j => (j, 0)) else p
theorem one_ok (s : Vo) (y : ByteArray) (a : Nat) : one s y (a, 0) = (if kind s a ≠ 1 then (0, 12) else match s.ent ⟨2, a, y, 0⟩ with | none => (0, 5) | some j => (j, 0) : Nat × Int) := by
  unfold one
  rw [if_pos rfl]
theorem wkN_snoc (s : Vo) (y : ByteArray) {nx nx' : ByteArray → List ByteArray → Nat × Int} (h : ∀ t ys, nx' t (ys ++ [y]) = one s y (nx t ys)) : ∀ (xs : List ByteArray) (a : Nat), wkN s false nx' a (xs ++ [y]) = one s y (wkN s true nx a xs)
  | [], a => by
    rw [List.nil_append, show wkN s true nx a [] = (a, 0) from rfl, one_ok]
    simp only [wkN]
    by_cases hk : kind s a ≠ 1
    · rw [if_pos hk, if_pos hk]
    · rw [if_neg hk, if_neg hk]
      cases s.ent ⟨2, a, y, 0⟩ with
      | none => rfl
      | some j => simp [wkN]
  | x :: xs, a => by
    simp only [List.cons_append, wkN]
    by_cases hk : kind s a ≠ 1
    · rw [if_pos hk, if_pos hk]; rfl
    · rw [if_neg hk, if_neg hk]
      cases s.ent ⟨2, a, x, 0⟩ with
      | none => rfl
      | some j =>
        dsimp only
        have e1 : (xs ++ [y]).isEmpty = false := by cases xs <;> rfl
        rw [e1]
        cases hj : decide (kind s j ≠ 3)
        · simp only [Bool.false_and, Bool.false_or, Bool.not_true, Bool.and_false, Bool.false_eq_true, if_false]
          exact h _ _
        · simp only [Bool.true_or, if_true]
          exact wkN_snoc s y h xs j
theorem wkL_snoc (s : Vo) (y : ByteArray) : ∀ (r : Nat) (xs : List ByteArray) (a : Nat), wkL s false r a (xs ++ [y]) = one s y (wkL s true r a xs)
  | 0, xs, a => wkN_snoc s y (fun _ _ => rfl) xs a
  | r + 1, xs, a => wkN_snoc s y (fun t ys => by
    split
    · rw [← List.append_assoc]; exact wkL_snoc s y r _ 1
    · rename_i h
      unfold one
      rw [if_neg h]) xs a
/-- what walks that follow and that don't have to do with each other -/
def LnkR (s : Vo) (p q : Nat × Int) : Prop := (p.2 = 0 → kind s p.1 ≠ 3 ∧ (s.ino p.1).isSome = true ∧ q.2 = 0) ∧ (q.2 ≠ 0 → p.2 = q.2) ∧ (q.2 = 0 → (s.ino q.1).isSome = true ∧ (kind s q.1 = 3 ∨ (p.2 = 0 ∧ p.1 = q.1)))
theorem LnkR.err (s : Vo) (e : Int) (h : e ≠ 0) : LnkR s (0, e) (0, e) := ⟨fun h2 => absurd h2 h, fun _ => rfl, fun h2 => absurd h2 h⟩
theorem wkN_lnk (s : Vo) (hE : ∀ k j, s.ent k = some j → (s.ino j).isSome = true) {nx nx' : ByteArray → List ByteArray → Nat × Int} (h : ∀ t ys, LnkR s (nx t ys) (nx' t ys)) : ∀ (xs : List ByteArray) (a : Nat), kind s a ≠ 3 → (s.ino a).isSome = true → LnkR s (wkN s true nx a xs) (wkN s false nx' a xs)
  | [], a, h3, hi => ⟨fun _ => ⟨h3, hi, rfl⟩, fun e => absurd rfl e, fun _ => ⟨hi, .inr ⟨rfl, rfl⟩⟩⟩
  | x :: xs, a, h3, hi => by
    simp only [wkN]
    by_cases hk : kind s a ≠ 1
    · rw [if_pos hk, if_pos hk]; exact LnkR.err s 12 (by decide)
    · rw [if_neg hk, if_neg hk]
      cases he : s.ent ⟨2, a, x, 0⟩ with
      | none => exact LnkR.err s 5 (by decide)
      | some j =>
        dsimp only
        have hj := hE _ _ he
        by_cases hj3 : kind s j = 3
        · have e1 : decide (kind s j ≠ 3) = false := by simp [hj3]
          rw [e1]
          cases xs with
          | nil =>
            simp only [List.isEmpty_nil, Bool.not_true, Bool.and_false, Bool.or_false, Bool.false_eq_true, if_false, Bool.not_false, Bool.and_true, Bool.false_or, if_true]
            have hn := h (tgtOf s j) []
            exact ⟨fun e => ⟨(hn.1 e).1, (hn.1 e).2.1, rfl⟩, fun e => absurd rfl e, fun _ => ⟨hj, .inl hj3⟩⟩
          | cons z zs => exact h _ _
        · have e1 : decide (kind s j ≠ 3) = true := by simp [hj3]
          rw [e1]
          simp only [Bool.true_or, if_true]
          exact wkN_lnk s hE h xs j hj3 hj
theorem wkL_lnk (s : Vo) (hE : ∀ k j, s.ent k = some j → (s.ino j).isSome = true) (hr : kind s 1 = 1) : ∀ (r : Nat) (xs : List ByteArray) (a : Nat), kind s a ≠ 3 → (s.ino a).isSome = true → LnkR s (wkL s true r a xs) (wkL s false r a xs)
  | 0, xs, a, h3, hi => wkN_lnk s hE (fun _ _ => LnkR.err s 15 (by decide)) xs a h3 hi
  | r + 1, xs, a, h3, hi => wkN_lnk s hE (fun t ys => by
    split
    · refine wkL_lnk s hE hr r _ 1 (by rw [hr]; decide) ?_
      obtain ⟨n, hn, _⟩ := kind_some (s := s) (i := 1) (by rw [hr]; decide)
      rw [hn]; rfl
    · rename_i h
      exact LnkR.err s _ h) xs a h3 hi
/-- whoever gets along names gets along the first of them, to a directory -/
theorem wkN_way (s : Vo) (y : ByteArray) (ys : List ByteArray) {nx nx' : ByteArray → List ByteArray → Nat × Int} (h : ∀ t zs, (nx' t (zs ++ y :: ys)).2 = 0 → (nx t zs).2 = 0 ∧ kind s (nx t zs).1 = 1) : ∀ (xs : List ByteArray) (a : Nat), (wkN s false nx' a (xs ++ y :: ys)).2 = 0 → (wkN s true nx a xs).2 = 0 ∧ kind s (wkN s true nx a xs).1 = 1
  | [], a, h0 => by
    simp only [List.nil_append, wkN] at h0
    by_cases hk : kind s a ≠ 1
    · rw [if_pos hk] at h0; cases h0
    · exact ⟨rfl, Decidable.not_not.1 hk⟩
  | x :: xs, a, h0 => by
    simp only [List.cons_append, wkN] at h0 ⊢
    by_cases hk : kind s a ≠ 1
    · rw [if_pos hk] at h0; cases h0
    · rw [if_neg hk] at h0 ⊢
      cases he : s.ent ⟨2, a, x, 0⟩ with
      | none => rw [he] at h0; cases h0
      | some j =>
        rw [he] at h0
        dsimp only at h0 ⊢
        have e1 : (xs ++ y :: ys).isEmpty = false := by cases xs <;> rfl
        rw [e1] at h0
        cases hj : decide (kind s j ≠ 3)
        · rw [hj] at h0
          simp only [Bool.false_and, Bool.false_or, Bool.not_true, Bool.and_false, Bool.false_eq_true, if_false] at h0 ⊢
          exact h _ _ h0
        · rw [hj] at h0
          simp only [Bool.true_or, if_true] at h0 ⊢
          exact wkN_way s y ys h xs j h0
theorem wkL_way (s : Vo) (y : ByteArray) (ys : List ByteArray) : ∀ (r : Nat) (xs : List ByteArray) (a : Nat), (wkL s false r a (xs ++ y :: ys)).2 = 0 → (wkL s true r a xs).2 = 0 ∧ kind s (wkL s true r a xs).1 = 1
  | 0, xs, a => wkN_way s y ys (fun _ _ h => absurd h (by decide)) xs a
  | r + 1, xs, a => wkN_way s y ys (fun t zs => by
    split
    · rw [← List.append_assoc]
      exact wkL_way s y ys r _ 1
    · rename_i h
      exact fun e => absurd e h) xs a
end Go.Proofs.YtjkmfonngbendaaGreatDoor.Di
/- Contract of package dirs' walk: along names. -/
namespace Go.Proofs.YtjkmfonngbendaaGreatDoor.Di
set_option linter.unusedVariables false
set_option linter.unusedSimpArgs false
set_option maxRecDepth 100000
open Go.ChangeShapes Go.WideShapes Go.ChangeAt Go.RowKit
open BigFrame
open Ar Rg
open Ino
open It (Itm)
open Ph (en1 en1_len en1_one MkS catS spB spX)
variable {w w' wr : World} {g bi be bn ba bu N M bb : Nat} {it o1 o2 o3 rv pv m1 m2 m3 m4 v : Value} {s s' : Vo} {ps : List Pt} {U : Nat → Option Unit}
theorem cut_len : ∀ l : List UInt8, (Ph.cut l).length ≤ l.length + 1
  | [] => by simp [Ph.cut]
  | b :: l => by
    have ih := cut_len l
    unfold Ph.cut
    split
    · simp only [List.length_cons]; omega
    · simp only [List.length_cons, List.length_tail]; omega
theorem spB_len (p : ByteArray) : (spB p).length ≤ 256 := by
  unfold Ph.spB Ph.spN
  rw [List.length_map]
  split
  · exact Nat.zero_le _
  · rename_i h
    have h1 : ¬ 256 < p.data.toList.length := fun h2 => h (.inl h2)
    have h2 := cut_len p.data.toList.tail
    have h3 : p.data.toList.tail.length ≤ p.data.toList.length - 1 := by rw [List.length_tail]; exact Nat.le_refl _
    have h4 : p.data.toList ≠ [] := fun e => h (.inr (.inr (.inl (by rw [e]; simp))))
    have h5 : 0 < p.data.toList.length := List.length_pos_iff.2 h4
    omega
theorem sp_sizes {p : ByteArray} (h : spX p = 0) : ∀ x ∈ spB p, x.size ≤ maxLen := by
  have h1 := (Ph.sp_ok (p := p.data.toList) h).2.1
  intro x hx
  unfold Ph.spB at hx
  obtain ⟨l, hl, rfl⟩ := List.mem_map.1 hx
  have h2 : Ph.nm l = true := List.all_eq_true.1 h1 l hl
  unfold Ph.nm at h2
  simp only [Bool.and_eq_true, decide_eq_true_eq] at h2
  show (Ph.bsL l).size ≤ _
  have h3 : (Ph.bsL l).size = l.length := by simp [Ph.bsL, ByteArray.size]
  have h4 := h2.1.1.1.1.2
  rw [h3]
  unfold maxLen
  omega
def WkPost (s : Vo) (fo : Bool) (names : List ByteArray) (w : World) (e : Ending) (w' : World) : Prop := e = .returned (.tuple #[.int .u32 ((wkL s fo 8 1 names).1 : Nat), .int .i64 (wkL s fo 8 1 names).2]) ∧ Below w.heap.size w w'
theorem tgt_get (s : Vo) (i : Nat) : tgtOf s i = ((s.ino i).getD zIn).T := by
  unfold tgtOf
  cases s.ino i <;> rfl
theorem wk_nil {s : Vo} {fo : Bool} {r a : Nat} {R : Nat × Int} (h : wkL s fo r a [] = R) : R.1 = a ∧ R.2 = 0 := by
  rw [wkL_nil] at h; subst h; exact ⟨rfl, rfl⟩
theorem wk_file {s : Vo} {fo : Bool} {r a : Nat} {x : ByteArray} {xs : List ByteArray} {R : Nat × Int} (h : wkL s fo r a (x :: xs) = R) (hk : kind s a ≠ 1) : R.1 = 0 ∧ R.2 = 12 := by
  rw [wkL_cons, if_pos hk] at h; subst h; exact ⟨rfl, rfl⟩
theorem wk_none {s : Vo} {fo : Bool} {r a : Nat} {x : ByteArray} {xs : List ByteArray} {R : Nat × Int} (h : wkL s fo r a (x :: xs) = R) (hk : kind s a = 1) (he : s.ent ⟨2, a, x, 0⟩ = none) : R.1 = 0 ∧ R.2 = 5 := by
  rw [wkL_cons, if_neg (by rw [hk]; decide), he] at h; subst h; exact ⟨rfl, rfl⟩
theorem wk_on {s : Vo} {fo : Bool} {r a j : Nat} {x : ByteArray} {xs : List ByteArray} {R : Nat × Int} (h : wkL s fo r a (x :: xs) = R) (hk : kind s a = 1) (he : s.ent ⟨2, a, x, 0⟩ = some j) (hc : (decide (kind s j ≠ 3) || (xs.isEmpty && !fo)) = true) : wkL s fo r j xs = R := by
  rw [wkL_cons, if_neg (by rw [hk]; decide), he] at h
  dsimp only at h
  rw [if_pos hc] at h
  exact h
theorem wk_loop {s : Vo} {fo : Bool} {a j : Nat} {x : ByteArray} {xs : List ByteArray} {R : Nat × Int} (h : wkL s fo 0 a (x :: xs) = R) (hk : kind s a = 1) (he : s.ent ⟨2, a, x, 0⟩ = some j) (hc : (decide (kind s j ≠ 3) || (xs.isEmpty && !fo)) = false) : R.1 = 0 ∧ R.2 = 15 := by
  rw [wkL_cons, if_neg (by rw [hk]; decide), he] at h
  dsimp only at h
  rw [hc, if_neg (by decide)] at h
  subst h; exact ⟨rfl, rfl⟩
theorem wk_bad {s : Vo} {fo : Bool} {r a j : Nat} {x : ByteArray} {xs : List ByteArray} {R : Nat × Int} (h : wkL s fo (r + 1) a (x :: xs) = R) (hk : kind s a = 1) (he : s.ent ⟨2, a, x, 0⟩ = some j) (hc : (decide (kind s j ≠ 3) || (xs.isEmpty && !fo)) = false) (hb : spX (tgtOf s j) ≠ 0) : R.1 = 0 ∧ R.2 = spX (tgtOf s j) := by
  rw [wkL_cons, if_neg (by rw [hk]; decide), he] at h
  dsimp only at h
  rw [hc, if_neg (by decide), if_neg hb] at h
  subst h; exact ⟨rfl, rfl⟩
theorem wk_link {s : Vo} {fo : Bool} {r a j : Nat} {x : ByteArray} {xs : List ByteArray} {R : Nat × Int} (h : wkL s fo (r + 1) a (x :: xs) = R) (hk : kind s a = 1) (he : s.ent ⟨2, a, x, 0⟩ = some j) (hc : (decide (kind s j ≠ 3) || (xs.isEmpty && !fo)) = false) (hb : spX (tgtOf s j) = 0) : wkL s fo r 1 (spB (tgtOf s j) ++ xs) = R := by
  rw [wkL_cons, if_neg (by rw [hk]; decide), he] at h
  dsimp only at h
  rw [hc, if_neg (by decide), if_pos hb] at h
  exact h
set_option maxHeartbeats 4000000 in
theorem walk_any (hV : VW w g bi be bn ba N it o1 o2 o3 rv pv s) (fo : Bool) (names : List ByteArray) (A : Option Addr) (n c : Nat) (hn : n = names.length) (hc : n ≤ c) (hcm : c ≤ maxLen) (hm : n ≤ 1048577) (hL : Ls en1 1 w w.heap.size A names) (hsz : ∀ x ∈ names, x.size ≤ maxLen) (hT : ∀ i n, s.ino i = some n → n.T.size ≤ maxLen) :
    Calls Tryz.prog 46 #[.pointer (some ⟨g, 0, none⟩), .slice A n c, .bool fo] w (WkPost s fo names w) := by
  have HV := Lib.hid hV
  have HN := Lib.hid hn
  have HL := Lib.hid hL
  have HSZ := Lib.hid hsz
  have HCC := Lib.hid (And.intro hc hcm)
  have HKT := Lib.hid hT
  obtain ⟨R, hR⟩ : ∃ R, wkL s fo 8 1 names = R := ⟨_, rfl⟩
  have HR0 := Lib.hid hR
  unfold WkPost
  rw [hR]
  obtain ⟨R1, R2⟩ := R
  clear hV hn hL hsz hc hcm hR hT
  dsimp only
  go_enter Tryz.func46, Tryz.ntmps46
  go_wp2_with fail
  go_loopw [1, 8, 9] (fun v1 v8 v9 wr => ∃ (a r l n1 c1 : Nat) (A1 : Option Addr) (xs : List ByteArray), v1 = .slice A1 n1 c1 ∧ v8 = .int .u32 (a : Int) ∧ v9 = .int .i64 (l : Int) ∧ l + r = 8 ∧ a < 4294967296 ∧ n1 + 256 * r ≤ 2097152 ∧ Hid (n1 = xs.length) ∧ Hid (n1 ≤ c1 ∧ c1 ≤ maxLen) ∧ Hid (Ls en1 1 wr wr.heap.size A1 xs) ∧ Hid (∀ x ∈ xs, x.size ≤ maxLen) ∧ Hid (wkL s fo r a xs = (R1, R2)) ∧ Hid (Below w.heap.size w wr)) (fun v1 v8 v9 _ => 300 * (8 - (intOf v9).toNat) + slN v1)
  case atStart => exact ⟨1, 8, 0, n, c, A, names, rfl, rfl, rfl, rfl, by decide, by omega, HN.out, HCC.out, HL.out, HSZ.out, HR0.out, Below.refl _ _⟩
  case round =>
    obtain ⟨a, r, l, n1, c1, A1, xs, rfl, rfl, rfl, hlr, ha, hb, hx1, hx2, hx3, hx4, hx5, hx6⟩ := hrel
    have HX1 := Lib.hid (Hid.out hx1)
    have HX2 := Lib.hid (Hid.out hx2)
    have HX3 := Lib.hid (Hid.out hx3)
    have HX4 := Lib.hid (Hid.out hx4)
    have HX5 := Lib.hid (Hid.out hx5)
    have HB := Lib.hid (Hid.out hx6)
    clear hx1 hx2 hx3 hx4 hx5 hx6 HL HN HR0 HSZ HCC
    have HV1 := Lib.hid (HV.out.go HB.out)
    by_cases hn0 : n1 = 0
    · subst hn0
      have hnil : xs = [] := List.eq_nil_of_length_eq_zero HX1.out.symm
      subst hnil
      have HE := Lib.hid (wk_nil HX5.out)
      go_wp2_with fail
      go_ret2
      exact ⟨by rw [show R1 = a from HE.out.1, show R2 = 0 from HE.out.2]; rfl, HB.out⟩
    · obtain ⟨x, xs, rfl⟩ : ∃ x ys, xs = x :: ys := by
        cases xs with
        | nil => exact absurd HX1.out hn0
        | cons x ys => exact ⟨x, ys, rfl⟩
      obtain ⟨m, rfl⟩ : ∃ m, n1 = m + 1 := ⟨n1 - 1, by omega⟩
      obtain ⟨nr, hnr⟩ : ∃ nr, (s.ino a).getD zIn = nr := ⟨_, rfl⟩
      obtain ⟨nK, nM, nL, nS, nT⟩ := nr
      have hlk : (Instr.lookup 95 (.map (some bi)) (.int .u32 (a : Int)) false).run Tryz.prog wr = .ok (.agg #[.int .u8 nK, .int .u16 nM, .int .u32 nL, .int .u32 nS, .string nT]) wr := by have := lookI HV1.out.m.i ha; rw [hnr] at this; exact this
      have hfd : ∀ wx : World, (Instr.field 33 (.agg #[.int .u8 nK, .int .u16 nM, .int .u32 nL, .int .u32 nS, .string nT]) 0).run Tryz.prog wx = .ok (.int .u8 nK) wx := (fun _ => by kernel_rfl)
      have HKA := Lib.hid (show kind s a = nK by rw [kind_get, hnr])
      have c6 : wr.cell? ⟨g, 6, none⟩ = some (.map (some bi)) := HV1.out.c.cells.2.2.2.1
      clear hn0 hnr
      by_cases hk : nK = 1
      · have HK1 := Lib.hid (HKA.out.trans hk)
        have e1 : ((nK : Int) != 1) = false := by rw [bne, eqz1 (decide_eq_true hk)]; rfl
        clear hk
        obtain ⟨b0, o0, hA1, hb0, hr0⟩ := HX3.out 0 x rfl
        subst hA1
        have e0 : wr.cell? ⟨b0, o0, none⟩ = some (.string x) := by have := hr0 0 _ rfl; rw [Nat.zero_mul, Nat.add_zero] at this; exact this
        obtain ⟨th, hth⟩ : ∃ th, (s.ent ⟨2, a, x, 0⟩).isSome = th := ⟨_, rfl⟩
        obtain ⟨j, hj⟩ : ∃ j, (s.ent ⟨2, a, x, 0⟩).getD 0 = j := ⟨_, rfl⟩
        have hle : (Instr.lookup 96 (.map (some be)) (.agg #[.int .u8 2, .int .u32 (a : Int), .string x, .int .u32 0]) true).run Tryz.prog wr.drew = .ok (.tuple #[.int .u32 (j : Int), .bool th]) wr.drew := by
          have := lookE_okd HV1.out.m.e (k := ⟨2, a, x, 0⟩) ⟨⟨(show (2 : Nat) < 256 by decide), ha, (show (0 : Nat) < 4294967296 by decide)⟩, HX4.out x (by simp)⟩
          rw [hj, hth] at this
          exact this
        have c7 : wr.cell? ⟨g, 7, none⟩ = some (.map (some be)) := HV1.out.c.cells.2.2.2.2.1
        have hjl : j < 4294967296 := by
          rw [← hj]
          cases e : s.ent ⟨2, a, x, 0⟩ with
          | none => exact (by decide : (0 : Nat) < 4294967296)
          | some c => exact HV1.out.m.ok.ent _ _ e
        have HTH := Lib.hid hth
        have HJ := Lib.hid hj
        clear hr0 hth hj
        go_wp2_with fail
        refine wp_region_G (fun w' => w' = wr.drew) (by kernel_rfl) (by kernel_rfl) rfl ?_
        refine wpG_val (.pointer (some ⟨g, 0, none⟩)) rfl (by rfl) (fun w' hSw => by subst hSw; go_simp) ?_
        simp only [List.setIfInBounds_toArray, List.set_cons_zero, List.set_cons_succ]
        refine wpG_val (.pointer (some ⟨g, 0, none⟩)) rfl (by rfl) (fun w' hSw => by subst hSw; go_simp) ?_
        simp only [List.setIfInBounds_toArray, List.set_cons_zero, List.set_cons_succ]
        refine wpG_val (.pointer (some ⟨g, 7, none⟩)) rfl (by rfl) (fun w' hSw => by subst hSw; go_simp) ?_
        simp only [List.setIfInBounds_toArray, List.set_cons_zero, List.set_cons_succ]
        refine wpG_val (.map (some be)) rfl (by rfl) (fun w' hSw => by subst hSw; go_simp) ?_
        simp only [List.setIfInBounds_toArray, List.set_cons_zero, List.set_cons_succ]
        refine wpG_val (.int .u32 (a : Int)) rfl (by rfl) (fun w' hSw => by subst hSw; go_simp) ?_
        simp only [List.setIfInBounds_toArray, List.set_cons_zero, List.set_cons_succ]
        refine wpG_val (.slice (some ⟨b0, o0, none⟩) (m + 1) c1) rfl (by rfl) (fun w' hSw => by subst hSw; go_simp) ?_
        simp only [List.setIfInBounds_toArray, List.set_cons_zero, List.set_cons_succ]
        refine wpG_val (.pointer (some ⟨b0, o0, none⟩)) rfl (by rfl) (fun w' hSw => by subst hSw; go_simp) ?_
        simp only [List.setIfInBounds_toArray, List.set_cons_zero, List.set_cons_succ]
        refine wpG_val (.string x) rfl (by rfl) (fun w' hSw => by subst hSw; go_simp) ?_
        simp only [List.setIfInBounds_toArray, List.set_cons_zero, List.set_cons_succ]
        refine wpG_val (.agg #[.int .u8 2, .int .u32 (a : Int), .string x, .int .u32 0]) rfl (by rfl) (fun w' hSw => by subst hSw; go_simp) ?_
        simp only [List.setIfInBounds_toArray, List.set_cons_zero, List.set_cons_succ]
        refine wpG_val (.tuple #[.int .u32 (j : Int), .bool th]) rfl (by rfl) (fun w' hSw => by subst hSw; go_simp) ?_
        simp only [List.setIfInBounds_toArray, List.set_cons_zero, List.set_cons_succ]
        refine wpG_val (.tuple #[.int .u32 (j : Int), .bool th]) rfl (by rfl) (fun w' hSw => by subst hSw; go_simp) ?_
        simp only [List.setIfInBounds_toArray, List.set_cons_zero, List.set_cons_succ]
        refine wpG_val (.int .u32 (j : Int)) rfl (by rfl) (fun w' hSw => by subst hSw; go_simp) ?_
        simp only [List.setIfInBounds_toArray, List.set_cons_zero, List.set_cons_succ]
        refine wpG_val (.bool th) rfl (by rfl) (fun w' hSw => by subst hSw; go_simp) ?_
        simp only [List.setIfInBounds_toArray, List.set_cons_zero, List.set_cons_succ]
        refine wpG_val (.int .u32 (j : Int)) rfl (by rfl) (fun w' hSw => by subst hSw; go_simp) ?_
        simp only [List.setIfInBounds_toArray, List.set_cons_zero, List.set_cons_succ]
        refine wpG_val (.bool th) rfl (by rfl) (fun w' hSw => by subst hSw; go_simp) ?_
        simp only [List.setIfInBounds_toArray, List.set_cons_zero, List.set_cons_succ]
        refine wpG_nil ?_
        intro wS hSw
        subst hSw
        have HVd := Lib.hid HV1.out.drew
        have HBd := Lib.hid HB.out.drew
        have HXd := Lib.hid (show Ls en1 1 wr.drew wr.drew.heap.size (some ⟨b0, o0, none⟩) (x :: xs) from HX3.out.below (Below.refl _ _).drew)
        clear hlk c6 c7 e0 hle HV1 HB HX3
        generalize wr.drew = wd at *
        cases th
        · have HE := Lib.hid (wk_none HX5.out HK1.out (by cases e : s.ent ⟨2, a, x, 0⟩ with | none => rfl | some k => have := HTH.out; rw [e] at this; cases this))
          go_wp2_with fail
          go_ret2
          exact ⟨by rw [show R1 = 0 from HE.out.1, show R2 = 5 from HE.out.2]; rfl, HBd.out⟩
        · have HEJ := Lib.hid (show s.ent ⟨2, a, x, 0⟩ = some j by cases e : s.ent ⟨2, a, x, 0⟩ with | none => (have := HTH.out; rw [e] at this; cases this) | some k => (have := HJ.out; rw [e] at this; rw [← this]; rfl))
          clear HTH HJ
          obtain ⟨A2, hA2⟩ : ∃ A2, (if c1 = 1 then some (⟨b0, o0, none⟩ : Addr) else some ⟨b0, o0 + 1, none⟩) = A2 := ⟨_, rfl⟩
          have HA2 := Lib.hid hA2
          clear hA2
          go_wp2_with fail
          refine wp_region_G (fun w' => w' = wd.drew) (by kernel_rfl) (by kernel_rfl) rfl ?_
          refine wpG_val (.int .u32 (j : Int)) rfl (by rfl) (fun w' hSw => by subst hSw; go_simp) ?_
          simp only [List.setIfInBounds_toArray, List.set_cons_zero, List.set_cons_succ]
          refine wpG_val (.slice (some ⟨b0, o0, none⟩) (m + 1) c1) rfl (by rfl) (fun w' hSw => by subst hSw; go_simp) ?_
          simp only [List.setIfInBounds_toArray, List.set_cons_zero, List.set_cons_succ]
          refine wpG_val (.slice A2 m (c1 - 1)) rfl (by rfl) (fun w' hSw => by subst hSw; have h2 := HA2.out; go_simp; intro h; omega) ?_
          simp only [List.setIfInBounds_toArray, List.set_cons_zero, List.set_cons_succ]
          refine wpG_val (.int .u32 (j : Int)) rfl (by rfl) (fun w' hSw => by subst hSw; go_simp) ?_
          simp only [List.setIfInBounds_toArray, List.set_cons_zero, List.set_cons_succ]
          refine wpG_val (.slice A2 m (c1 - 1)) rfl (by rfl) (fun w' hSw => by subst hSw; go_simp) ?_
          simp only [List.setIfInBounds_toArray, List.set_cons_zero, List.set_cons_succ]
          refine wpG_nil ?_
          intro wS hSw
          subst hSw
          have HVe := Lib.hid HVd.out.drew
          have HBe := Lib.hid HBd.out.drew
          have HXe := Lib.hid (show Ls en1 1 wd.drew wd.drew.heap.size A2 xs from by
            have h1 := (HXd.out.below (Below.refl wd.heap.size wd).drew).drop (p := 1) HX1.out HX2.out.1 (by omega)
            have h2 : (if c1 = 1 then some (⟨b0, o0, none⟩ : Addr) else (some (⟨b0, o0, none⟩ : Addr)).map (·.add (1 * 1))) = A2 := by
              rw [← HA2.out]
              split
              · rfl
              · rw [Option.map_some, Nat.mul_one, Ar.add_plain]
            rw [h2] at h1
            exact h1)
          clear HVd HBd HXd HA2
          generalize wd.drew = we at *
          obtain ⟨nr, hnr⟩ : ∃ nr, (s.ino j).getD zIn = nr := ⟨_, rfl⟩
          obtain ⟨jK, jM, jL, jS, jT⟩ := nr
          have hlj : (Instr.lookup 95 (.map (some bi)) (.int .u32 (j : Int)) false).run Tryz.prog we = .ok (.agg #[.int .u8 jK, .int .u16 jM, .int .u32 jL, .int .u32 jS, .string jT]) we := by have := lookI HVe.out.m.i hjl; rw [hnr] at this; exact this
          have HKJ := Lib.hid (show kind s j = jK by rw [kind_get, hnr])
          have HTJ := Lib.hid (show tgtOf s j = jT by rw [tgt_get, hnr])
          have HTS := Lib.hid (show jT.size ≤ maxLen by
            have h0 : jT = ((s.ino j).getD zIn).T := by rw [hnr]
            rw [h0]
            cases e : s.ino j with
            | none => exact Nat.zero_le _
            | some n => exact HKT.out j n e)
          have c6 : we.cell? ⟨g, 6, none⟩ = some (.map (some bi)) := HVe.out.c.cells.2.2.2.1
          have HEM := Lib.hid (show xs.isEmpty = decide (m = 0) by have := HX1.out; cases xs with | nil => (simp at this; simp [this]) | cons y ys => (simp at this; simp [this]))
          have hal : Below we.heap.size we (we.alloc (.cells #[.int .u8 jK, .int .u16 jM, .int .u32 jL, .int .u32 jS, .string jT] 33)) := (Below.refl _ _).alloc (Nat.le_refl _) _
          have rj := heap_alloc_new we (.cells #[.int .u8 jK, .int .u16 jM, .int .u32 jL, .int .u32 jS, .string jT] 33)
          have k0 : (we.alloc (.cells #[.int .u8 jK, .int .u16 jM, .int .u32 jL, .int .u32 jS, .string jT] 33)).cell? ⟨we.heap.size, 0, none⟩ = some (.int .u8 jK) := cell_of_row _ _ 0 _ _ _ rj
          have k4 : (we.alloc (.cells #[.int .u8 jK, .int .u16 jM, .int .u32 jL, .int .u32 jS, .string jT] 33)).cell? ⟨we.heap.size, 4, none⟩ = some (.string jT) := cell_of_row _ _ 4 _ _ _ rj
          have HVf := Lib.hid (HVe.out.go hal)
          have HBf := Lib.hid (HBe.out.trans (hal.mono HBe.out.size))
          have HXf := Lib.hid ((HXe.out.below hal).more hal.size)
          have HX6 := Lib.hid (show m = xs.length by have := HX1.out; simpa using this)
          have HX7 := Lib.hid (show m ≤ c1 - 1 ∧ c1 - 1 ≤ maxLen by have := HX2.out; omega)
          have HX8 := Lib.hid (show ∀ y ∈ xs, y.size ≤ maxLen from fun y hy => HX4.out y (List.mem_cons_of_mem _ hy))
          clear hnr rj hal HVe HBe HXe HX1 HX2 HX4
          by_cases h3 : jK = 3
          · have e3 : ((jK : Int) != 3) = false := by rw [bne, eqz3 (decide_eq_true h3)]; rfl
            have H3 := Lib.hid (HKJ.out.trans h3)
            clear h3
            by_cases hgo : m = 0 ∧ fo = false
            · obtain ⟨hm0, rfl⟩ := hgo
              have e4 : ((m : Int) == 0) = true := eqz0 (decide_eq_true hm0)
              have HON := Lib.hid (wk_on HX5.out HK1.out HEJ.out (by rw [HEM.out, decide_eq_true hm0]; simp))
              clear hm0
              go_wp2_with fail
              exact ⟨⟨j, r, l, m, c1 - 1, A2, xs, rfl, rfl, rfl, hlr, hjl, by omega, HX6.out, HX7.out, HXf.out, HX8.out, HON.out, HBf.out⟩, by simp [slN, intOf]⟩
            · have HC0 := Lib.hid (show (decide (kind s j ≠ 3) || (xs.isEmpty && !fo)) = false by
                rw [HEM.out, H3.out]
                cases fo
                · rw [decide_eq_false (fun h => hgo ⟨h, rfl⟩)]; rfl
                · rw [Bool.not_true, Bool.and_false]; rfl)
              by_cases hm0 : m = 0
              · have e4 : ((m : Int) == 0) = true := eqz0 (decide_eq_true hm0)
                obtain rfl : true = fo := by
                  cases fo
                  · exact absurd ⟨hm0, rfl⟩ hgo
                  · rfl
                clear hm0 hgo
                by_cases hr0 : r = 0
                · subst hr0
                  have e5 : ((l : Int) == 8) = true := eqz (b := 8) (decide_eq_true (by omega))
                  have HE := Lib.hid (wk_loop HX5.out HK1.out HEJ.out HC0.out)
                  go_wp2_with fail
                  go_ret2
                  exact ⟨by rw [show R1 = 0 from HE.out.1, show R2 = 15 from HE.out.2]; rfl, HBf.out⟩
                · obtain ⟨r, rfl⟩ : ∃ k, r = k + 1 := ⟨r - 1, by omega⟩
                  have e5 : ((l : Int) == 8) = false := eqz (b := 8) (decide_eq_false (by omega))
                  have HSP := Lib.hid (fun w => Ph.split_any jT HTS.out w)
                  have HWB := Lib.hid (fun h => wk_bad HX5.out HK1.out HEJ.out HC0.out h)
                  have HWL := Lib.hid (fun h => wk_link HX5.out HK1.out HEJ.out HC0.out h)
                  rw [HTJ.out] at HWB HWL
                  have HSN := Lib.hid (sp_sizes (p := jT))
                  have HSL := Lib.hid (spB_len jT)
                  unfold Ph.SplitPost at HSP
                  generalize spB jT = D at *
                  generalize spX jT = sx at *
                  clear hr0
                  by_cases hsx : sx = 0
                  · have e6 : (sx != 0) = false := by rw [bne, eq0, decide_eq_true hsx]; rfl
                    have HL2 := Lib.hid (HWL.out hsx)
                    have HDS := Lib.hid (HSN.out hsx)
                    have hwl : IntKind.i64.wrap ((l : Int) + 1) = ((l + 1 : Nat) : Int) := by rw [show ((l + 1 : Nat) : Int) = (l : Int) + 1 by omega]; exact IntWalk.i64_in _ ⟨by omega, by omega⟩
                    clear hsx
                    go_wp2_with (first
                      | (go_at_call 88; refine (HSP.out _).mono ?_; rintro e w7 ⟨v7, rfl, hm7⟩; have HM7 := Lib.hid hm7; have HX9 := Lib.hid ((HXf.out.below hm7.2).more hm7.2.size); have HB7 := Lib.hid (HBf.out.trans (hm7.2.mono HBf.out.size)); clear hm7)
                      | (refine catS HM7.out xs A2 m (c1 - 1) HX6.out HX9.out (by have := HSL.out; omega) rfl _ _ rfl rfl rfl ?_; intro v8 w8 hm8 hg8; have HM8 := Lib.hid hm8; have HB8 := Lib.hid (HBf.out.trans (hm8.2.mono HBf.out.size)); clear hm8 hg8))
                    obtain ⟨A8, c8, hv8, h81, h82, h83⟩ := HM8.out.ls en1_len
                    have hlen8 : (D ++ xs).length = D.length + m := by rw [List.length_append, ← HX6.out]
                    rw [hlen8] at hv8 h81
                    exact ⟨⟨1, r, l + 1, D.length + m, c8, A8, D ++ xs, hv8, rfl, by go_num, by omega, by decide, by have := HSL.out; omega, hlen8.symm, ⟨h81, h82⟩, h83, fun y hy => (by
                      rcases List.mem_append.1 hy with h | h
                      · exact HDS.out y h
                      · exact HX8.out y h), HL2.out, HB8.out⟩, by rw [hv8]; have := HSL.out; simp [slN, intOf]; omega⟩
                  · have e6 : (sx != 0) = true := by rw [bne, eq0, decide_eq_false hsx]; rfl
                    have HE := Lib.hid (HWB.out hsx)
                    clear hsx
                    go_wp2_with (go_at_call 88; refine (HSP.out _).mono ?_; rintro e w7 ⟨v7, rfl, hm7⟩; have HB7 := Lib.hid (HBf.out.trans (hm7.2.mono HBf.out.size)); clear hm7)
                    go_ret2
                    exact ⟨by rw [show R1 = 0 from HE.out.1, show R2 = sx from HE.out.2]; rfl, HB7.out⟩
              · have e4 : ((m : Int) == 0) = false := eqz0 (decide_eq_false hm0)
                clear hm0 hgo
                by_cases hr0 : r = 0
                · subst hr0
                  have e5 : ((l : Int) == 8) = true := eqz (b := 8) (decide_eq_true (by omega))
                  have HE := Lib.hid (wk_loop HX5.out HK1.out HEJ.out HC0.out)
                  go_wp2_with fail
                  go_ret2
                  exact ⟨by rw [show R1 = 0 from HE.out.1, show R2 = 15 from HE.out.2]; rfl, HBf.out⟩
                · obtain ⟨r, rfl⟩ : ∃ k, r = k + 1 := ⟨r - 1, by omega⟩
                  have e5 : ((l : Int) == 8) = false := eqz (b := 8) (decide_eq_false (by omega))
                  have HSP := Lib.hid (fun w => Ph.split_any jT HTS.out w)
                  have HWB := Lib.hid (fun h => wk_bad HX5.out HK1.out HEJ.out HC0.out h)
                  have HWL := Lib.hid (fun h => wk_link HX5.out HK1.out HEJ.out HC0.out h)
                  rw [HTJ.out] at HWB HWL
                  have HSN := Lib.hid (sp_sizes (p := jT))
                  have HSL := Lib.hid (spB_len jT)
                  unfold Ph.SplitPost at HSP
                  generalize spB jT = D at *
                  generalize spX jT = sx at *
                  clear hr0
                  by_cases hsx : sx = 0
                  · have e6 : (sx != 0) = false := by rw [bne, eq0, decide_eq_true hsx]; rfl
                    have HL2 := Lib.hid (HWL.out hsx)
                    have HDS := Lib.hid (HSN.out hsx)
                    have hwl : IntKind.i64.wrap ((l : Int) + 1) = ((l + 1 : Nat) : Int) := by rw [show ((l + 1 : Nat) : Int) = (l : Int) + 1 by omega]; exact IntWalk.i64_in _ ⟨by omega, by omega⟩
                    clear hsx
                    go_wp2_with (first
                      | (go_at_call 88; refine (HSP.out _).mono ?_; rintro e w7 ⟨v7, rfl, hm7⟩; have HM7 := Lib.hid hm7; have HX9 := Lib.hid ((HXf.out.below hm7.2).more hm7.2.size); have HB7 := Lib.hid (HBf.out.trans (hm7.2.mono HBf.out.size)); clear hm7)
                      | (refine catS HM7.out xs A2 m (c1 - 1) HX6.out HX9.out (by have := HSL.out; omega) rfl _ _ rfl rfl rfl ?_; intro v8 w8 hm8 hg8; have HM8 := Lib.hid hm8; have HB8 := Lib.hid (HBf.out.trans (hm8.2.mono HBf.out.size)); clear hm8 hg8))
                    obtain ⟨A8, c8, hv8, h81, h82, h83⟩ := HM8.out.ls en1_len
                    have hlen8 : (D ++ xs).length = D.length + m := by rw [List.length_append, ← HX6.out]
                    rw [hlen8] at hv8 h81
                    exact ⟨⟨1, r, l + 1, D.length + m, c8, A8, D ++ xs, hv8, rfl, by go_num, by omega, by decide, by have := HSL.out; omega, hlen8.symm, ⟨h81, h82⟩, h83, fun y hy => (by
                      rcases List.mem_append.1 hy with h | h
                      · exact HDS.out y h
                      · exact HX8.out y h), HL2.out, HB8.out⟩, by rw [hv8]; have := HSL.out; simp [slN, intOf]; omega⟩
                  · have e6 : (sx != 0) = true := by rw [bne, eq0, decide_eq_false hsx]; rfl
                    have HE := Lib.hid (HWB.out hsx)
                    clear hsx
                    go_wp2_with (go_at_call 88; refine (HSP.out _).mono ?_; rintro e w7 ⟨v7, rfl, hm7⟩; have HB7 := Lib.hid (HBf.out.trans (hm7.2.mono HBf.out.size)); clear hm7)
                    go_ret2
                    exact ⟨by rw [show R1 = 0 from HE.out.1, show R2 = sx from HE.out.2]; rfl, HB7.out⟩
          · have e3 : ((jK : Int) != 3) = true := by rw [bne, eqz3 (decide_eq_false h3)]; rfl
            have HON := Lib.hid (wk_on HX5.out HK1.out HEJ.out (by rw [HKJ.out, decide_eq_true h3]; rfl))
            clear h3
            go_wp2_with fail
            exact ⟨⟨j, r, l, m, c1 - 1, A2, xs, rfl, rfl, rfl, hlr, hjl, by omega, HX6.out, HX7.out, HXf.out, HX8.out, HON.out, HBf.out⟩, by simp [slN, intOf]⟩
      · have e1 : ((nK : Int) != 1) = true := by rw [bne, eqz1 (decide_eq_false hk)]; rfl
        have HE := Lib.hid (wk_file HX5.out (by rw [HKA.out]; exact hk))
        clear hk
        go_wp2_with fail
        go_ret2
        exact ⟨by rw [show R1 = 0 from HE.out.1, show R2 = 12 from HE.out.2]; rfl, HB.out⟩
end Go.Proofs.YtjkmfonngbendaaGreatDoor.Di
/- Contracts of package dirs' list and next. -/
namespace Go.Proofs.YtjkmfonngbendaaGreatDoor.Di
set_option linter.unusedVariables false
set_option linter.unusedSimpArgs false
set_option maxRecDepth 100000
open Go.ChangeShapes Go.WideShapes Go.ChangeAt Go.RowKit
open BigFrame
open Ar Rg
open Ino
open It (Itm)
variable {w w' wr : World} {g bi be bn ba bu N M bb : Nat} {it o1 o2 o3 rv pv m1 m2 m3 m4 v : Value} {s s' : Vo} {ps : List Pt} {U : Nat → Option Unit}
/-- an entry of a directory -/
structure En where
  n : ByteArray
  i : Nat
  k : Nat
def encEn (e : En) : List Value := [.string e.n, .int .u32 (e.i : Int), .int .u8 (e.k : Int)]
theorem encEn_len (e : En) : (encEn e).length = 3 := rfl
theorem encEn_one (e : En) : ∀ u ∈ encEn e, u.oneCell' = true := by
  intro u hu
  simp only [encEn, List.mem_cons, List.not_mem_nil, or_false] at hu
  rcases hu with rfl | rfl | rfl <;> rfl
def enOf (s : Vo) (p : Pt) : En := ⟨p.k.N, (s.ent p.k).getD 0, kind s ((s.ent p.k).getD 0)⟩
def isE (d : Nat) (p : Pt) : Bool := decide (p.k.K = 2) && decide (p.k.I = d)
/-- the entries of a directory, as the parts stand -/
def lsE (s : Vo) (d : Nat) (ps : List Pt) : List En := (ps.filter (isE d)).map (enOf s)
theorem lsE_yes {d i : Nat} {p : Pt} (hp : ps[i]? = some p) (h : isE d p = true) : lsE s d (ps.take (i + 1)) = lsE s d (ps.take i) ++ [enOf s p] := by
  unfold lsE
  rw [List.take_add_one, hp, List.filter_append, List.map_append]
  simp [h]
theorem lsE_no {d i : Nat} {p : Pt} (hp : ps[i]? = some p) (h : isE d p = false) : lsE s d (ps.take (i + 1)) = lsE s d (ps.take i) := by
  unfold lsE
  rw [List.take_add_one, hp, List.filter_append]
  simp [h]
theorem lsE_len (d i : Nat) : (lsE s d (ps.take i)).length ≤ i := by
  unfold lsE
  rw [List.length_map]
  exact Nat.le_trans (List.length_filter_le _ _) (by rw [List.length_take]; omega)
end Go.Proofs.YtjkmfonngbendaaGreatDoor.Di
/- Contracts of package dirs' next and get, and of its exported functions. -/
namespace Go.Proofs.YtjkmfonngbendaaGreatDoor.Di
set_option linter.unusedVariables false
set_option linter.unusedSimpArgs false
set_option maxRecDepth 100000
open Go.ChangeShapes Go.WideShapes Go.ChangeAt Go.RowKit
open BigFrame
open Ar Rg
open Ino
open It (Itm)
open Ph (en1 spX spB)
variable {w w' wr : World} {g bi be bn ba bu N M bb : Nat} {it o1 o2 o3 rv pv m1 m2 m3 m4 v : Value} {s s' : Vo} {ps : List Pt} {U : Nat → Option Unit}
/-- the least number from 2 on of which there is no inode -/
def Nx (s : Vo) (j : Nat) : Prop := 2 ≤ j ∧ j < 4294967296 ∧ s.ino j = none ∧ ∀ k, 2 ≤ k → k < j → (s.ino k).isSome = true
/-- what Get answers -/
noncomputable def gtI (L : List Itm) (i : Nat) : In := if rgt L then ((vo (pts L)).ino i).getD zIn else zIn
noncomputable def gtE (L : List Itm) (i : Nat) : Int := if rgt L then (if ((vo (pts L)).ino i).isSome then 0 else 5) else 9
theorem ZI : vI zIn = .agg #[.int .u8 0, .int .u16 0, .int .u32 0, .int .u32 0, .string ⟨#[]⟩] := rfl
theorem VolAt.low {L : List Itm} {lo lo' : Nat} (h : VolAt w g lo it o1 o2 o3 L) (hl : lo' ≤ lo) (hg : g < lo') : VolAt w g lo' it o1 o2 o3 L := by
  obtain ⟨bi, be, bn, ba, A, c, hV, h1, h2, h3, hA, hb, hgl⟩ := h
  exact ⟨bi, be, bn, ba, A, c, hV, h1, h2, h3, fun b o e => Nat.le_trans hl (hA b o e), Nat.le_trans hl hb, hg⟩
theorem off_setRow {X : Nat → Prop} (w : World) (r : Nat) (cs : Array Value) (h : X r) : Off X w (w.setRow r cs) := by
  refine ⟨rfl, rfl, rfl, by simp [World.setRow], fun j hj hx => ?_⟩
  unfold World.setRow
  simp only [Array.getElem?_modify]
  rw [if_neg (by intro e; subst e; exact hx h)]
def GtPost (g : Nat) (it : Value) (L : List Itm) (i : Nat) (w : World) (e : Ending) (w' : World) : Prop :=
  e = .returned (.tuple #[vI (gtI L i), .int .i64 (gtE L i)]) ∧ (rgt L = true → VolAt w' g w.heap.size it (.int .u32 1) (.int .i32 0) (.int .u32 0) L) ∧ Off (fun j => j = g) w w'
end Go.Proofs.YtjkmfonngbendaaGreatDoor.Di
/- Contracts of package dirs' exported functions. -/
namespace Go.Proofs.YtjkmfonngbendaaGreatDoor.Di
set_option linter.unusedVariables false
set_option linter.unusedSimpArgs false
set_option maxRecDepth 100000
open Go.ChangeShapes Go.WideShapes Go.ChangeAt Go.RowKit
open BigFrame
open Ar Rg
open Ino
open It (Itm)
open Ph (en1 spX spB)
variable {w w' wr : World} {g bi be bn ba bu N M bb : Nat} {it o1 o2 o3 rv pv m1 m2 m3 m4 v : Value} {s s' : Vo} {ps : List Pt} {U : Nat → Option Unit}
/-- items that lie in memory -/
def ItA (w : World) (A : Option Addr) (n : Nat) (L : List Itm) : Prop := n = L.length ∧ n ≤ 1048576 ∧ Ls It.enc 2 w w.heap.size A L
theorem ItA.go {A : Option Addr} {n : Nat} {L : List Itm} (h : ItA w A n L) (hb : Below w.heap.size w w') : ItA w' A n L := ⟨h.1, h.2.1, (h.2.2.below hb).more hb.size⟩
theorem newV {A : Option Addr} {n : Nat} (c : Nat) {L : List Itm} (h : ItA w A n L) : VC (w.alloc (.cells #[.slice A n c, .int .u32 0, .int .i32 0, .int .u32 0, .bool false, .slice none 0 0, .map none, .map none, .map none, .map none] 99)) w.heap.size (.slice A n c) (.int .u32 0) (.int .i32 0) (.int .u32 0) (.bool false) (.slice none 0 0) (.map none) (.map none) (.map none) (.map none) ∧ Ls It.enc 2 (w.alloc (.cells #[.slice A n c, .int .u32 0, .int .i32 0, .int .u32 0, .bool false, .slice none 0 0, .map none, .map none, .map none, .map none] 99)) w.heap.size A L ∧ Below w.heap.size w (w.alloc (.cells #[.slice A n c, .int .u32 0, .int .i32 0, .int .u32 0, .bool false, .slice none 0 0, .map none, .map none, .map none, .map none] 99)) :=
  ⟨heap_alloc_new w _, h.2.2.below ((Below.refl _ _).alloc (Nat.le_refl _) _), (Below.refl _ _).alloc (Nat.le_refl _) _⟩
theorem below_off {w1 : World} (h : Below w.heap.size w w1) (ho : Off (fun j => j = w.heap.size) w1 w') : Below w.heap.size w w' := h.trans (ho.below h.size (fun j hj => by rw [hj]; exact Nat.le_refl _))
set_option maxHeartbeats 2000000 in
theorem Check_any {A : Option Addr} {n : Nat} (c : Nat) {L : List Itm} (h : ItA w A n L) :
    Calls Tryz.prog 18 #[.slice A n c] w fun e w' => e = .returned (.int .i64 (ckE L)) ∧ Below w.heap.size w w' := by
  have HN := Lib.hid (newV c h)
  have HC := Lib.hid (check_any L A n c HN.out.1 h.1 h.2.1 HN.out.2.1)
  clear h
  unfold CkPost at HC
  go_enter Tryz.func18, Tryz.ntmps18
  go_wp2_with (go_at_call 45; refine HC.out.mono ?_; rintro e w1 ⟨rfl, _, ho⟩; have HB := Lib.hid (below_off HN.out.2.2 ho); clear ho)
  go_ret
  exact ⟨rfl, HB.out⟩
/-- what Walk answers -/
noncomputable def wlk (L : List Itm) (fo : Bool) (names : List ByteArray) : Nat × Int := if rgt L then wkL (vo (pts L)) fo 8 1 names else (0, 9)
/-- names that lie in memory -/
def NmA (w : World) (A : Option Addr) (n c : Nat) (D : List ByteArray) : Prop := n = D.length ∧ n ≤ c ∧ c ≤ maxLen ∧ n ≤ 1048577 ∧ Ls en1 1 w w.heap.size A D ∧ ∀ x ∈ D, x.size ≤ maxLen
theorem NmA.go {A : Option Addr} {n c : Nat} {D : List ByteArray} (h : NmA w A n c D) (hb : Below w.heap.size w w') : NmA w' A n c D := ⟨h.1, h.2.1, h.2.2.1, h.2.2.2.1, (h.2.2.2.2.1.below hb).more hb.size, h.2.2.2.2.2⟩
set_option maxHeartbeats 2000000 in
theorem Walk_any {A A' : Option Addr} {n n' c' : Nat} (c : Nat) (fo : Bool) {L : List Itm} {names : List ByteArray} (h : ItA w A n L) (hN : NmA w A' n' c' names) :
    Calls Tryz.prog 19 #[.slice A n c, .slice A' n' c', .bool fo] w fun e w' => e = .returned (.tuple #[.int .u32 ((wlk L fo names).1 : Nat), .int .i64 (wlk L fo names).2]) ∧ Below w.heap.size w w' := by
  have HN := Lib.hid (newV c h)
  have HC := Lib.hid (check_any L A n c HN.out.1 h.1 h.2.1 HN.out.2.1)
  have HNM := Lib.hid hN
  unfold CkPost at HC
  have HCE := Lib.hid (show ckE L = if rgt L then 0 else 9 from rfl)
  obtain ⟨q, hq⟩ : ∃ q, wlk L fo names = q := ⟨_, rfl⟩
  rw [hq]
  have HQ := Lib.hid hq
  unfold wlk at HQ
  clear h hN hq
  cases hr : rgt L
  · rw [hr] at HQ HCE
    rw [HCE.out] at HC
    obtain rfl : (0, 9) = q := HQ.out
    clear hr
    go_enter Tryz.func19, Tryz.ntmps19
    go_wp2_with (go_at_call 45; refine HC.out.mono ?_; rintro e w1 ⟨rfl, _, ho⟩; have HB := Lib.hid (below_off HN.out.2.2 ho); clear ho)
    go_ret2
    exact ⟨rfl, HB.out⟩
  · rw [hr] at HQ HCE
    rw [HCE.out] at HC
    obtain ⟨R1, R2⟩ := q
    have HQ1 := Lib.hid (show wkL (vo (pts L)) fo 8 1 names = (R1, R2) from HQ.out)
    have HR := Lib.hid hr
    clear hr HQ
    dsimp only
    go_enter Tryz.func19, Tryz.ntmps19
    go_wp2_with (first
      | (go_at_call 45; refine HC.out.mono ?_; rintro e w1 ⟨rfl, hv, ho⟩; have HB := Lib.hid (below_off HN.out.2.2 ho); have HV := Lib.hid (hv HR.out); have HM1 := Lib.hid (HNM.out.go HB.out); clear ho hv)
      | (go_at_call 46; obtain ⟨bi, be, bn, ba, A1, c1, hV1, _⟩ := HV.out; have HWK := Lib.hid (walk_any hV1 fo names A' n' c' HM1.out.1 HM1.out.2.1 HM1.out.2.2.1 HM1.out.2.2.2.1 HM1.out.2.2.2.2.1 HM1.out.2.2.2.2.2 (fun i n hn => (hV1.m.ok.ino i n hn).2)); unfold WkPost at HWK; rw [HQ1.out] at HWK; refine HWK.out.mono ?_; rintro e w2 ⟨rfl, hb2⟩; have HB2 := Lib.hid (HB.out.trans (hb2.mono HB.out.size)); clear hb2 hV1))
    go_ret2
    exact ⟨rfl, HB2.out⟩
/-- what List answers -/
noncomputable def lsX (L : List Itm) (i : Nat) : Int := if gtE L i ≠ 0 then gtE L i else if (gtI L i).K ≠ 1 then 12 else 0
noncomputable def lsL (L : List Itm) (i : Nat) : List En := if lsX L i = 0 then lsE (vo (pts L)) i (pts L) else []
theorem rgt_parts {L : List Itm} (h : rgt L = true) : ∀ p ∈ pts L, PtOk p ∧ okP p = true ∧ okK p.k = true := by
  have hr := rgt_iff.1 h
  exact pts_ok hr.rt hr.ok
theorem gtE_rgt {L : List Itm} {i : Nat} (h : gtE L i = 0) : rgt L = true := by
  unfold gtE at h
  cases hr : rgt L
  · rw [hr] at h; cases h
  · rfl
/-- a new volume -/
def kR : Ky := ⟨1, 1, ⟨#[]⟩, 0⟩
def nR : In := ⟨1, 0, 1, 0, ⟨#[]⟩⟩
theorem kR_ok : okK kR = true := by decide
theorem nR_ok : okI nR = true := by decide
theorem kR_lim : kR.lim := ⟨by decide, by decide, by decide⟩
theorem nR_lim : nR.lim := ⟨by decide, by decide, by decide, by decide⟩
def rootI : Itm := ⟨wrK kR, wrI nR⟩
set_option maxHeartbeats 2000000 in
theorem New_any (w : World) : Calls Tryz.prog 17 #[] w fun e w' => ∃ A, e = .returned (.slice A 1 1) ∧ ItA w' A 1 [rootI] ∧ Below w.heap.size w w' := by
  have CK := Lib.hid (fun w => key_in kR kR_lim w)
  have CE := Lib.hid (fun w => encode_in nR nR_lim w)
  have h1 := chK_yes kR_ok
  have h2 := chI_yes nR_ok
  rw [h1.1, h1.2] at CK
  rw [h2.1, h2.2] at CE
  have HRT := Lib.hid (show rootI = ⟨wrK kR, wrI nR⟩ from rfl)
  generalize wrK kR = ks at *
  generalize wrI nR = vs at *
  unfold vK kR at CK
  unfold vI nR at CE
  dsimp only at CK CE
  clear h1 h2
  go_enter Tryz.func17, Tryz.ntmps17
  go_wp2_with (first
    | (go_at_call 14; refine (CK.out _).mono ?_; rintro e w1 ⟨rfl, hb1⟩; have HB1 := Lib.hid hb1; clear hb1)
    | (go_at_call 13; refine (CE.out _).mono ?_; rintro e w2 ⟨rfl, hb2⟩; have HB2 := Lib.hid (HB1.out.trans (hb2.mono HB1.out.size)); clear hb2))
  go_ret
  exact ⟨_, rfl, ⟨rfl, by decide, by
    rw [HRT.out]
    exact Ls.new (enc := It.enc) (k := 2) w2 ⟨ks, vs⟩ 82 _ (by simp)⟩, HB2.out.alloc HB2.out.size _⟩
end Go.Proofs.YtjkmfonngbendaaGreatDoor.Di
/- What the laws of package dirs ask, as plain facts; a new volume; the laws' own question. -/
namespace Go.Proofs.YtjkmfonngbendaaGreatDoor.Di
set_option linter.unusedVariables false
set_option linter.unusedSimpArgs false
set_option maxRecDepth 100000
open Go.ChangeShapes Go.WideShapes Go.ChangeAt Go.RowKit
open BigFrame
open Ar Rg
open Ino
open It (Itm)
open Ph (en1 en1_len spX spB)
variable {w w' wr : World} {g bi be bn ba bu N M bb : Nat} {s : Vo}
/-! a new volume -/
theorem root_pt : ptOf rootI = ⟨kR, wrI nR⟩ := by
  unfold ptOf rootI
  dsimp only
  rw [(deK_back kR_lim kR_ok).1]
def nA : ByteArray := ⟨#[97]⟩
def L0 : List Itm := [rootI]
theorem pts0 : pts L0 = [⟨kR, wrI nR⟩] := by
  unfold pts L0
  rw [List.map_cons, List.map_nil, root_pt]
theorem vo_0 : vo (pts L0) = takeI vo0 ⟨kR, wrI nR⟩ := by
  rw [pts0]
  show takeP vo0 ⟨kR, wrI nR⟩ = _
  exact if_pos (show (⟨kR, wrI nR⟩ : Pt).k.K = 1 from rfl)
theorem ino_0 (i : Nat) : (vo (pts L0)).ino i = if i = 1 then some nR else none := by
  rw [vo_0]
  show (if i = kR.I then some (deI (wrI nR)) else none) = _
  rw [(deI_back nR_lim nR_ok).1]
  rfl
theorem ent_0 (k : Ky) : (vo (pts L0)).ent k = none := by rw [vo_0]; rfl
theorem kind_0 : kind (vo (pts L0)) 1 = 1 := by
  unfold kind
  rw [ino_0, if_pos rfl]
  rfl
theorem rgt_0 : rgt L0 = true := by
  have hs : (wrK kR).size = 5 := by
    have h := wrK_pfx kR_ok
    rw [h.1, ByteArray.size_append, (pfx_ok kR_ok).2]
    rfl
  have hv : (wrI nR).size = 13 := by rw [wrI_size nR (by decide)]; rfl
  refine rgt_iff.2 ⟨?_, ?_, kind_0, ?_, ?_⟩
  · show It.rtFrom none [rootI] = true
    simp only [It.rtFrom, Bool.and_true]
    unfold It.okI It.okKey rootI
    dsimp only
    rw [hs, hv]
    decide
  · intro x hx
    obtain rfl : x = rootI := by simpa [L0] using hx
    unfold okX
    rw [root_pt]
    have h1 : deKE rootI.k = 0 := (deK_back kR_lim kR_ok).2
    rw [h1]
    unfold okP
    rw [if_pos (show (⟨kR, wrI nR⟩ : Pt).k.K = 1 from rfl)]
    dsimp only
    rw [(deI_back nR_lim nR_ok).2]
    rfl
  · intro p hp
    rw [pts0] at hp
    obtain rfl : p = ⟨kR, wrI nR⟩ := by simpa using hp
    unfold stray
    dsimp only
    rw [ino_0, if_pos (show kR.I = 1 from rfl)]
    rfl
  · intro i n hn hk
    rw [ino_0] at hn
    split at hn
    · rename_i h; rw [h]; exact Up.one _
    · cases hn
theorem rgt_nil : rgt [] = false := by
  rw [Bool.eq_false_iff]
  intro h
  have := (rgt_iff.1 h).root
  cases this
theorem gt_0 : gtI L0 1 = nR ∧ gtE L0 1 = 0 := by
  unfold gtI gtE
  rw [rgt_0, ino_0, if_pos rfl]
  exact ⟨rfl, rfl⟩
theorem wlk_0 : wlk L0 true [] = (1, 0) ∧ wlk L0 true [nA] = (0, 5) := by
  unfold wlk
  rw [rgt_0]
  refine ⟨wkL_nil _ _ _ _, ?_⟩
  rw [if_pos rfl, wkL_cons, if_neg (by rw [kind_0]; decide), ent_0]
theorem ls_0 : lsX L0 1 = 0 ∧ lsL L0 1 = [] := by
  have hx : lsX L0 1 = 0 := by
    unfold lsX
    rw [gt_0.2, gt_0.1]
    rfl
  refine ⟨hx, ?_⟩
  unfold lsL
  rw [hx, if_pos rfl, pts0]
  rfl
theorem nx_0 {j : Nat} (h : Nx (vo (pts L0)) j) : j = 2 := by
  obtain ⟨h1, h2, h3, h4⟩ := h
  by_cases e : j = 2
  · exact e
  · have := h4 2 (by omega) (by omega)
    rw [ino_0, if_neg (by decide)] at this
    cases this
theorem ck_0 : ckE L0 = 0 ∧ ckE [] = 9 := by
  unfold ckE
  rw [rgt_0, rgt_nil]
  exact ⟨rfl, rfl⟩
theorem nm_nil (w : World) : NmA w none 0 0 [] := ⟨rfl, by decide, by unfold maxLen; omega, by decide, Ls.nil, fun x hx => by cases hx⟩
theorem nm_one (w : World) (b : ByteArray) (hb : b.size ≤ maxLen) (t : TypeId) : NmA (w.alloc (.cells #[.string b] t)) (some ⟨w.heap.size, 0, none⟩) 1 1 [b] :=
  ⟨rfl, by decide, by unfold maxLen; omega, by decide, Ls.new (enc := en1) (k := 1) w b t _ (by simp), fun x hx => by
    obtain rfl : x = b := by simpa using hx
    exact hb⟩
end Go.Proofs.YtjkmfonngbendaaGreatDoor.Di
