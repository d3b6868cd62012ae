/- Contracts of package inode: an inode's bytes, there and back. -/
import Derived.Test.YtcnggidihkcndaaGreatDoorInA
import Derived.Test.YtcnggidihkcndaaGreatDoorRgG
namespace Go.Proofs.YtcnggidihkcndaaGreatDoor.Ino
set_option linter.unusedVariables false
set_option linter.unusedSimpArgs false
open Go.ChangeShapes Go.WideShapes Go.ChangeAt Go.RowKit
open Rg
open Pk (be num be_length num_be num_lt bs bs_size nB nE tN tR tE uN uOk uT uR uE xB xE number_any take_any xB_size)
open Ph (has contains_any tl tl_len nb)
theorem box_cell (w : World) (cs : Array Value) (t : TypeId) (i : Nat) {v : Value} (hv : cs[i]? = some v) : (w.alloc (.cells cs t)).cell? ⟨w.heap.size, i, none⟩ = some v :=
  (cell_of_row (w.alloc (.cells cs t)) w.heap.size i cs t (0, 0) (heap_alloc_new w _)).trans hv
theorem u64_id {n : Nat} (h : n < 18446744073709551616) : IntKind.u64.wrap (n : Int) = n := by rw [IntKind.wrap_u64]; omega
/-- an inode's bytes, or none -/
def enI (n : In) : ByteArray := if okI n then wrI n else ByteArray.empty
theorem chI_yes {n : In} (h : okI n = true) : chI n = 0 ∧ enI n = wrI n := by unfold chI enI; rw [h]; exact ⟨rfl, rfl⟩
theorem chI_no {n : In} (h : okI n = false) : chI n = 4 ∧ enI n = ByteArray.empty := by unfold chI enI; rw [h]; exact ⟨rfl, rfl⟩
theorem setRow_heap' {w : World} {g : Nat} {cs old : Array Value} {t : TypeId} {f : Nat × Nat} (h : w.heap[g]? = some (.cells old t f)) : (w.setRow g cs).heap[g]? = some (.cells cs t f) := setRow_heap w g old cs t f h
theorem below_setRow {B : Nat} {w w1 : World} (h : Below B w w1) {g : Nat} (hg : B ≤ g) (cs : Array Value) : Below B w (w1.setRow g cs) :=
  ⟨h.os, h.tape, h.output, by simpa [World.setRow] using h.size, fun k hk => by
    have : (w1.setRow g cs).heap[k]? = w1.heap[k]? := by
      unfold World.setRow
      simp only [Array.getElem?_modify]
      rw [if_neg (by omega)]
    rw [this]
    exact h.block k hk⟩
theorem row_bel {w w' : World} {g B : Nat} {o : Obj} (h : w.heap[g]? = some o) (hb : Below B w w') (hg : g < B) : w'.heap[g]? = some o := (hb.block g hg).trans h
theorem row5 (K M L S : Int) (T : ByteArray) : (#[.int .u8 K, .int .u16 M, .int .u32 L, .int .u32 S, .string T] : Array Value).all (·.oneCell') = true := by simp [Value.oneCell']
theorem tn_nat (s : ByteArray) (k : Nat) (h : k ≤ 8) : tN s (k : Int) = ((tN s (k : Int)).toNat : Int) := by have := (tN_lt s k h).1; omega
theorem u8_id {n : Nat} (h : n < 256) : IntKind.u8.wrap (n : Int) = n := by simp [IntKind.wrap, IntKind.bits, IntKind.signed]; omega
theorem u16_id {n : Nat} (h : n < 65536) : IntKind.u16.wrap (n : Int) = n := by simp [IntKind.wrap, IntKind.bits, IntKind.signed]; omega
theorem u32_id {n : Nat} (h : n < 4294967296) : IntKind.u32.wrap (n : Int) = n := by simp [IntKind.wrap, IntKind.bits, IntKind.signed]; omega
theorem takeNat (s : ByteArray) (k m : Nat) (r : ByteArray) (hs : s.size ≤ maxLen) (hk : k ≤ 8) (hm : (tN s (k : Int)).toNat = m) (hr : tR s (k : Int) = r) (w : World) :
    Calls Tryz.prog 54 #[.string s, .int .i64 k] w fun e w' => e = .returned (.tuple #[.int .u64 (m : Int), .string r]) ∧ Below w.heap.size w w' := by
  have h := takeNumber_in s k w hs
  rw [tn_nat s k hk, hm, hr] at h
  exact h
theorem results_row2 {P : Program} {fn : Func} {p u : Tmp} {ty : TypeId} (h : fn.results = #[.cell p ty, .tmp u]) (tmps : Array Value) (w : World) (g : Nat) (t : TypeId) (cs : Array Value) (fr : Nat × Nat) (d : TypeDesc)
    (hp : tmps.getD p undef = .pointer (some ⟨g, 0, none⟩)) (hg : w.heap[g]? = some (.cells cs t fr))
    (hu : P.underlying ty = some d) (hd : (match d with | .struct _ | .array _ _ => true | _ => false) = true) (hi : (P.info? ty).map (·.size) = some cs.size) (r : Value) (hr : tmps.getD u undef = r) :
    (results fn tmps).run P w = .ok (.tuple #[.agg cs, r]) w := by
  rw [results_cell_tmp h, hp, hr]
  simp [asAddr, run_loadVar_row w g t ty cs fr d hg hu hd hi, Result.andThen]
theorem new_row {w1 : World} {g g2 : Nat} {o : Obj} {old cs : Array Value} {t : TypeId} (h : w1.heap[g]? = some o) (hg2 : w1.heap.size = g2) : ((w1.alloc (.cells old t)).setRow g2 cs).heap[g]? = some o ∧ ((w1.alloc (.cells old t)).setRow g2 cs).heap[g2]? = some (.cells cs t (0, 0)) ∧ Below w1.heap.size w1 ((w1.alloc (.cells old t)).setRow g2 cs) := by
  subst hg2
  have hlt : g < w1.heap.size := by
    rcases Nat.lt_or_ge g w1.heap.size with h' | h'
    · exact h'
    · rw [Array.getElem?_eq_none h'] at h; cases h
  have hb := below_setRow ((Below.refl w1.heap.size w1).alloc (Nat.le_refl _) (.cells old t)) (Nat.le_refl w1.heap.size) cs
  exact ⟨(hb.block g hlt).trans h, setRow_heap' (heap_alloc_new w1 _), hb⟩
theorem ne_str {x y : ByteArray} (h : x ≠ y) : (x.toList != y.toList) = true ∧ (x.toList == y.toList) = false := by
  have e : (x.toList == y.toList) = false := by
    rw [beq_eq_false_iff_ne, tl, tl]
    exact fun e => h (ByteArray.ext (Array.toList_inj.1 e))
  exact ⟨by rw [bne, e]; rfl, e⟩
theorem eq_str (x : ByteArray) : (x.toList != x.toList) = false ∧ (x.toList == x.toList) = true := by
  have e : (x.toList == x.toList) = true := beq_self_eq_true _
  exact ⟨by rw [bne, e]; rfl, e⟩
end Go.Proofs.YtcnggidihkcndaaGreatDoor.Ino
