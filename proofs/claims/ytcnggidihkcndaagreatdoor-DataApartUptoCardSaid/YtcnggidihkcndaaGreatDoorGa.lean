/- Plain mathematics of files' bytes as chunks that a volume keeps. No walk here. -/
import Derived.Test.YtcnggidihkcndaaGreatDoorItN
import Derived.Test.YtcnggidihkcndaaGreatDoorKyM
import Derived.Test.YtcnggidihkcndaaGreatDoorTrm
import Derived.Test.YtcnggidihkcndaaGreatDoorGi
import Derived.Test.YtcnggidihkcndaaGreatDoorRgG
import Derived.Test.YtcnggidihkcndaaGreatDoorGk
import Derived.Test.YtcnggidihkcndaaGreatDoorRgT
import Derived.Deep.OwnRows
import Derived.Lib.BufferWrite
import Derived.Laws.CopyOwn
import Derived.Deep.CutRange
namespace Go.Proofs.YtcnggidihkcndaaGreatDoor.Da
set_option linter.unusedVariables false
set_option linter.unusedSimpArgs false
open It (Itm Ch key ckey get app und pre UpK rt rc)
open Ino (Ky okK okK_iff wrK wrK_inj pfx deK deKE deK_back deK_ok wrK_pfx pfx_inj pfx_ok)
/-- the key of an inode's chunk -/
def kyC (I k : Nat) : Ky := ⟨3, I, ByteArray.empty, k⟩
def cky (I k : Nat) : ByteArray := wrK (kyC I k)
theorem kyC_ok {I k : Nat} (h : 1 ≤ I) (hk : k < 512) : okK (kyC I k) = true := okK_iff.2 ⟨h, .inr (.inr ⟨rfl, rfl, hk⟩)⟩
theorem kyC_lim {I k : Nat} (h : I < 4294967296) (hk : k < 512) : (kyC I k).lim := ⟨by show 3 < 256; omega, h, by show k < 4294967296; omega⟩
theorem cky_inj {I J k l : Nat} (hI : 1 ≤ I) (hI2 : I < 4294967296) (hJ : 1 ≤ J) (hJ2 : J < 4294967296) (hk : k < 512) (hl : l < 512) (h : cky I k = cky J l) : I = J ∧ k = l := by
  have := wrK_inj (kyC_lim hI2 hk) (kyC_lim hJ2 hl) (kyC_ok hI hk) (kyC_ok hJ hl) h
  unfold kyC at this
  simp only [Ky.mk.injEq] at this
  exact ⟨this.2.1, this.2.2.2⟩
theorem cky_parse {I k : Nat} (hI : 1 ≤ I) (hI2 : I < 4294967296) (hk : k < 512) : deK (cky I k) = kyC I k ∧ deKE (cky I k) = 0 := deK_back (kyC_lim hI2 hk) (kyC_ok hI hk)
/-- a chunk -/
structure Ck where
  n : Nat
  k : ByteArray
  h : Bool
  v : ByteArray
/-- the items under an inode's prefix that are chunks -/
def ckOf (x : Itm) : Option Ck := if deKE x.k = 0 then some ⟨(deK x.k).C, x.k, true, x.v⟩ else none
def chs (D : List Itm) (I : Nat) : List Ck := (und D (pfx 3 I)).filterMap ckOf
theorem pre_iff {p : ByteArray} {x : Itm} : pre p x = true ↔ ∃ r, x.k.data.toList = p.data.toList ++ r := by
  unfold pre key
  rw [List.isPrefixOf_iff_prefix]
  exact ⟨fun ⟨r, h⟩ => ⟨r, h.symm⟩, fun ⟨r, h⟩ => ⟨r, h.symm⟩⟩
theorem cky_pre {I k : Nat} (hI : 1 ≤ I) (hk : k < 512) : ∃ r, (cky I k).data.toList = (pfx 3 I).data.toList ++ r := by
  obtain ⟨h, _⟩ := wrK_pfx (kyC_ok hI hk)
  unfold cky
  rw [h]
  exact ⟨_, by rw [ByteArray.data_append, Array.toList_append]; rfl⟩
theorem ck_key {I : Nat} (hI : 1 ≤ I) (hI2 : I < 4294967296) {x : Itm} (hp : pre (pfx 3 I) x = true) (hk : deKE x.k = 0) : ∃ k, k < 512 ∧ x.k = cky I k ∧ (deK x.k).C = k := by
  obtain ⟨h1, h2, h3⟩ := deK_ok hk
  obtain ⟨p1, p2, p3, p4⟩ := wrK_pfx h1
  obtain ⟨q1, q2⟩ := pfx_ok (kyC_ok hI (show (0 : Nat) < 512 by omega))
  obtain ⟨q3, q4⟩ := pfx_ok h1
  obtain ⟨r, hr⟩ := pre_iff.1 hp
  have e5 : (deK x.k).K = 3 ∧ (deK x.k).I = I := by
    have e1 : pfx (deK x.k).K (deK x.k).I = pfx 3 I := by
      rw [← p2, h2]
      apply ByteArray.ext
      apply Array.toList_inj.1
      rw [ByteArray.data_extract, Array.toList_extract, List.extract_eq_take_drop, hr]
      have hz : (pfx 3 I).data.toList.length = 5 := by rw [Array.length_toList]; exact q2
      rw [List.drop_zero, Nat.sub_zero, List.take_append_of_le_length (by omega), List.take_of_length_le (by omega)]
    exact pfx_inj (a := deK x.k) (b := kyC I 0) h3 (kyC_lim hI2 (by omega)) h1 (kyC_ok hI (by omega)) e1
  obtain ⟨e6, e7⟩ := e5
  obtain ⟨_, h4⟩ := okK_iff.1 h1
  have hN : (deK x.k).N.size = 0 ∧ (deK x.k).C < 512 := by
    rcases h4 with ⟨a, _⟩ | ⟨a, _⟩ | ⟨_, b, c⟩
    · omega
    · omega
    · exact ⟨b, c⟩
  have hNe := Ino.size0 hN.1
  refine ⟨(deK x.k).C, hN.2, ?_, rfl⟩
  have : deK x.k = kyC I (deK x.k).C := by
    have : deK x.k = ⟨(deK x.k).K, (deK x.k).I, (deK x.k).N, (deK x.k).C⟩ := rfl
    rw [this, e6, e7, hNe]
    rfl
  unfold cky
  rw [← this, h2]
theorem mem_chs {D : List Itm} {I : Nat} (hI : 1 ≤ I) (hI2 : I < 4294967296) (c : Ck) : c ∈ chs D I ↔ ∃ k v, k < 512 ∧ (⟨cky I k, v⟩ : Itm) ∈ D ∧ c = ⟨k, cky I k, true, v⟩ := by
  unfold chs und ckOf
  rw [List.mem_filterMap]
  constructor
  · rintro ⟨x, hx, hc⟩
    obtain ⟨hD, hp⟩ := List.mem_filter.1 hx
    split at hc
    · rename_i hk
      obtain ⟨k, h1, h2, h3⟩ := ck_key hI hI2 hp hk
      refine ⟨k, x.v, h1, ?_, ?_⟩
      · rw [← h2]; exact hD
      · rw [← Option.some.inj hc, h3, h2]
    · cases hc
  · rintro ⟨k, v, hk, hD, rfl⟩
    refine ⟨⟨cky I k, v⟩, List.mem_filter.2 ⟨hD, pre_iff.2 (cky_pre hI hk)⟩, ?_⟩
    obtain ⟨p1, p2⟩ := cky_parse hI hI2 hk
    show (if deKE (cky I k) = 0 then _ else none) = _
    rw [if_pos p2]
    show some (Ck.mk (deK (cky I k)).C _ _ _) = _
    rw [p1]
    rfl
/-- the byte at a place of an inode's -/
def bt (D : List Itm) (I p : Nat) : UInt8 := match get D (cky I (p / 128)) with
  | some v => ((v.data.toList.take 128)[p % 128]?).getD 0
  | none => 0
/-- bytes that are read -/
def rdL (D : List Itm) (I a e : Nat) : List UInt8 := (List.range (e - a)).map fun j => bt D I (a + j)
theorem rdL_len (D : List Itm) (I a e : Nat) : (rdL D I a e).length = e - a := by unfold rdL; rw [List.length_map, List.length_range]
theorem rdL_get (D : List Itm) (I a e j : Nat) (h : j < e - a) : (rdL D I a e)[j]? = some (bt D I (a + j)) := by
  unfold rdL
  rw [List.getElem?_map, List.getElem?_range h]
  rfl
/-- bytes read in two parts -/
theorem rdL_two (D : List Itm) (I a m e : Nat) (h1 : a ≤ m) (h2 : m ≤ e) : rdL D I a m ++ rdL D I m e = rdL D I a e := by
  apply List.ext_getElem?
  intro j
  by_cases hj : j < m - a
  · rw [List.getElem?_append_left (by rw [rdL_len]; exact hj), rdL_get _ _ _ _ _ hj, rdL_get _ _ _ _ _ (by omega)]
  · rw [List.getElem?_append_right (by rw [rdL_len]; omega), rdL_len]
    by_cases hj2 : j < e - a
    · rw [rdL_get _ _ _ _ _ (by omega), rdL_get _ _ _ _ _ hj2, show m + (j - (m - a)) = a + j by omega]
    · rw [List.getElem?_eq_none (by rw [rdL_len]; omega), List.getElem?_eq_none (by rw [rdL_len]; omega)]
end Go.Proofs.YtcnggidihkcndaaGreatDoor.Da
/- Contracts of package data: a chunk's methods, keep, laid. -/
namespace Go.Proofs.YtcnggidihkcndaaGreatDoor.Da
set_option linter.unusedVariables false
set_option linter.unusedSimpArgs false
set_option maxRecDepth 100000
open Go.ChangeShapes Go.WideShapes Go.ChangeAt Go.RowKit
open Ar Rg
open Pk (u8s u8s_length)
open It (Itm Ch)
theorem setRow_heap' {w : World} {g : Nat} {cs old : Array Value} {t : TypeId} {f : Nat × Nat} (h : w.heap[g]? = some (.cells old t f)) : (w.setRow g cs).heap[g]? = some (.cells cs t f) := setRow_heap w g old cs t f h
theorem row_lt {w : World} {b : Nat} {o : Obj} (h : w.heap[b]? = some o) : b < w.heap.size := by
  rcases Nat.lt_or_ge b w.heap.size with hl | hg
  · exact hl
  · rw [Array.getElem?_eq_none hg] at h; cases h
/-- a chunk's cells -/
def enC (c : Ck) : List Value := [.int .u32 c.n, .string c.k, .bool c.h, .string c.v]
theorem enC_len (c : Ck) : (enC c).length = 4 := rfl
theorem enC_one (c : Ck) : ∀ u ∈ enC c, u.oneCell' = true := by
  intro v hv
  simp [enC] at hv
  rcases hv with rfl | rfl | rfl | rfl <;> rfl
theorem infoC4 (c : Ck) : (Tryz.prog.info? 64).map (·.size) = some (enC c).toArray.size := by
  show _ = some 4
  kernel_rfl
theorem infoH3 (c : Ch) : (Tryz.prog.info? 43).map (·.size) = some (Sc.enc c).toArray.size := by
  show _ = some 3
  kernel_rfl
theorem se1 {s : ByteArray} (h : s.size ≠ 0) : s.toList.isEmpty = false := by rw [ByteArray.toList_eq, List.isEmpty_eq_false_iff]; intro h2; exact h (show s.data.size = 0 by rw [← Array.length_toList, h2]; rfl)
theorem se2 {s : ByteArray} (h : s.size ≠ 0) : ¬ s.toList = [] := by intro h2; have := se1 h; rw [h2] at this; cases this
theorem se3 {s : ByteArray} (h : s.size = 0) : s.toList = [] := by rw [ByteArray.toList_eq]; exact List.eq_nil_of_length_eq_zero (by rw [Array.length_toList]; exact h)
theorem from_any (c : Ck) (h : c.n < 4294967296) (w : World) :
    Calls Tryz.prog 35 #[.agg (enC c).toArray] w fun e w' => e = .returned (.int .i64 ((c.n * 128 : Nat) : Int)) ∧ Below w.heap.size w w' := by
  show Calls Tryz.prog 35 #[.agg #[.int .u32 c.n, .string c.k, .bool c.h, .string c.v]] w _
  have HG := Lib.hid (show Below w.heap.size w (w.alloc (.cells #[.int .u32 c.n, .string c.k, .bool c.h, .string c.v] 64)) from (Below.refl _ w).alloc (Nat.le_refl _) _)
  go_enter Tryz.func35, Tryz.ntmps35
  go_wp2
  go_ret
  exact ⟨by congr 2, HG.out⟩
/-- the bytes that count -/
def btsB (c : Ck) : ByteArray := c.v.extract 0 (min c.v.size 128)
theorem btsB_size (c : Ck) : (btsB c).size = min c.v.size 128 := by unfold btsB; simp
theorem btsB_list (c : Ck) : (btsB c).data.toList = c.v.data.toList.take 128 := by
  unfold btsB
  rw [ByteArray.data_extract, Array.toList_extract, List.extract_eq_take_drop, List.drop_zero, Nat.sub_zero]
  have hl : c.v.data.toList.length = c.v.size := by rw [Array.length_toList]; rfl
  by_cases h : c.v.size ≤ 128
  · rw [Nat.min_eq_left h, List.take_of_length_le (by omega), List.take_of_length_le (by omega)]
  · rw [Nat.min_eq_right (by omega)]
theorem bytes_any (c : Ck) (h : c.v.size ≤ maxLen) (w : World) :
    Calls Tryz.prog 28 #[.agg (enC c).toArray] w fun e w' => e = .returned (.string (btsB c)) ∧ Below w.heap.size w w' := by
  show Calls Tryz.prog 28 #[.agg #[.int .u32 c.n, .string c.k, .bool c.h, .string c.v]] w _
  unfold maxLen at h
  have HG := Lib.hid (show Below w.heap.size w (w.alloc (.cells #[.int .u32 c.n, .string c.k, .bool c.h, .string c.v] 64)) from (Below.refl _ w).alloc (Nat.le_refl _) _)
  unfold btsB
  by_cases hs : c.v.size ≤ 128
  · rw [Nat.min_eq_left hs, show c.v.extract 0 c.v.size = c.v by simp]
    have hs1 : min (c.v.size : Int) 128 = (c.v.size : Int) := by omega
    go_enter Tryz.func28, Tryz.ntmps28
    go_wp2
    go_ret
    exact ⟨rfl, HG.out⟩
  · rw [Nat.min_eq_right (by omega)]
    have hs1 : min (c.v.size : Int) 128 = 128 := by omega
    have hs2 : (128 : Int) ≤ (c.v.size : Int) := by omega
    go_enter Tryz.func28, Tryz.ntmps28
    go_wp2
    go_ret
    exact ⟨rfl, HG.out⟩
/-- the change behind which a chunk is as it is -/
def akC (c : Ck) : Ch := ⟨c.k, c.h, c.v⟩
theorem asKept_any (c : Ck) (w : World) :
    Calls Tryz.prog 29 #[.agg (enC c).toArray] w fun e w' => e = .returned (.agg (Sc.enc (akC c)).toArray) ∧ Below w.heap.size w w' := by
  show Calls Tryz.prog 29 #[.agg #[.int .u32 c.n, .string c.k, .bool c.h, .string c.v]] w fun e w' => e = .returned (.agg #[.string c.k, .bool c.h, .string c.v]) ∧ Below w.heap.size w w'
  go_enter Tryz.func29, Tryz.ntmps29
  go_wp2
  refine bodyPost_ret (v := .agg #[.string c.k, .bool c.h, .string c.v]) (by simp [results, Tryz.results29, go_sem]) rfl ?_
  exact ⟨rfl, ((Below.refl _ _).alloc (Nat.le_refl _) _).alloc (by simp) _⟩
/-- the change behind which a chunk has bytes -/
def kpC (k b : ByteArray) : Ch := ⟨k, decide (0 < (Tm.cutB b).size), Tm.cutB b⟩
theorem keep_any (k b : ByteArray) (hb : b.size ≤ 9223372036854775807) (w : World) :
    Calls Tryz.prog 26 #[.string k, .string b] w fun e w' => e = .returned (.agg (Sc.enc (kpC k b)).toArray) ∧ Below w.heap.size w w' := by
  have HT := Lib.hid (fun w => Tm.trimRight_any b hb w)
  by_cases h0 : (Tm.cutB b).size = 0
  · have hk : (Sc.enc (kpC k b)).toArray = #[.string k, .bool false, .string (Tm.cutB b)] := by unfold kpC Sc.enc; rw [h0]; rfl
    rw [hk]
    have s3 := se3 h0
    clear hk h0 hb
    generalize Tm.cutB b = t at *
    go_enter Tryz.func26, Tryz.ntmps26
    go_wp2_with fail
    refine (HT.out _).mono ?_
    rintro e w1 ⟨rfl, rfl⟩
    go_wp2
    refine bodyPost_ret (v := .agg #[.string k, .bool false, .string t]) (by simp [results, Tryz.results26, go_sem]) rfl ?_
    exact ⟨rfl, (Below.refl _ _).alloc (Nat.le_refl _) _⟩
  · have hk : (Sc.enc (kpC k b)).toArray = #[.string k, .bool true, .string (Tm.cutB b)] := by unfold kpC Sc.enc; rw [decide_eq_true (by omega)]
    rw [hk]
    have s1 := se1 h0
    have s2 := se2 h0
    clear hk h0 hb
    generalize Tm.cutB b = t at *
    go_enter Tryz.func26, Tryz.ntmps26
    go_wp2_with fail
    refine (HT.out _).mono ?_
    rintro e w1 ⟨rfl, rfl⟩
    go_wp2
    refine bodyPost_ret (v := .agg #[.string k, .bool true, .string t]) (by simp [results, Tryz.results26, go_sem]) rfl ?_
    exact ⟨rfl, (Below.refl _ _).alloc (Nat.le_refl _) _⟩
/-- bytes laid into a row of bytes: as many as there are, or as fit -/
def cpy (L : List UInt8) (o n : Nat) (S : List UInt8) : List UInt8 := L.take o ++ S.take n ++ L.drop (o + min S.length n)
theorem cpy_len {L S : List UInt8} {o n : Nat} (h : o + n ≤ L.length) : (cpy L o n S).length = L.length := by
  unfold cpy
  simp only [List.length_append, List.length_take, List.length_drop]
  omega
theorem run_copy_u8 {P : Program} (w : World) (dT sT ty elem : TypeId) (g o dLen dCap : Nat) (s : ByteArray) (L : List UInt8) (t : TypeId)
    (hu : P.underlying dT = some (.slice elem)) (hs : (P.info? elem).map (·.size) = some 1) (hg : w.heap[g]? = some (.cells (u8s L).toArray t (0, 0))) (hfit : o + dLen ≤ L.length) :
    (Builtin.copy_ #[dT, sT] ty #[.slice (some ⟨g, o, none⟩) dLen dCap, .string s]).run P w =
      .ok (goInt (min s.size dLen)) (w.setRow g (u8s (cpy L o dLen s.data.toList)).toArray) := by
  have hsl : s.data.toList.length = s.size := by rw [Array.length_toList]; rfl
  obtain ⟨k, hk⟩ : ∃ k, min s.size dLen = k := ⟨_, rfl⟩
  have htk0 : s.data.toList.take dLen = s.data.toList.take k := by
    rw [← hk]
    by_cases h : dLen ≤ s.size
    · rw [Nat.min_eq_right h]
    · rw [Nat.min_eq_left (by omega), List.take_of_length_le (by omega), List.take_of_length_le (by omega)]
  have hlen : (Lib.byteCells (s.data.toList.take k)).length = k := by rw [Lib.byteCells_length, List.length_take, hsl]; omega
  have hst := run_storeCells_at P g o t (Lib.byteCells (s.data.toList.take k)) 0 (u8s L).toArray w hg (by rw [hlen, List.size_toArray, u8s_length]; omega) (Lib.byteCells_one _)
  have hmin : Nat.min s.size dLen = k := hk
  have htk : List.take k (List.map (fun b : UInt8 => Value.int IntKind.u8 (b.toNat : Int)) s.data.toList) = Lib.byteCells (s.data.toList.take k) := by
    unfold Lib.byteCells
    rw [List.map_take]
  rw [hlen] at hst
  simp only [Nat.add_zero] at hst
  have hnew : ((u8s L).toArray.toList.take o ++ Lib.byteCells (s.data.toList.take k) ++ (u8s L).toArray.toList.drop (o + k)).toArray = (u8s (cpy L o dLen s.data.toList)).toArray := by
    unfold cpy u8s Lib.byteCells
    rw [List.toList_toArray, hsl, hk, htk0]
    simp only [List.map_append, List.map_take, List.map_drop]
  rw [hnew] at hst
  cases hq : P.info? elem with
  | none => simp [hq] at hs
  | some i =>
    simp [Builtin.copy_, run_underlying hu, Builtin.lenOf, Builtin.firstCells, sizeOf, typeInfo, hq, hmin, hk]
    rw [htk, hst]
    simp only [Result.andThen]
    congr 1
    congr 1
    omega
theorem wpList_copy_u8 {P : Program} {ops : Array Oper} {rest : List Oper} {o : Oper} {a : Act} {w : World} {Q : Exit → Act → World → Prop}
    (hgd : o.guard = none) (d x : Operand) (dT sT : TypeId) (hop : o.op = Op.call { callee := Callee.builtin Builtin.copy, args := #[d, x], argTypes := #[dT, sT] })
    (elem : TypeId) (hu : P.underlying dT = some (.slice elem)) (hs : (P.info? elem).map (·.size) = some 1) (g off dLen dCap : Nat) (hd : a.eval d = .slice (some ⟨g, off, none⟩) dLen dCap) (s : ByteArray) (hx : a.eval x = .string s)
    (L : List UInt8) (t : TypeId) (hg : w.heap[g]? = some (.cells (u8s L).toArray t (0, 0))) (hfit : off + dLen ≤ L.length)
    (hK : ∀ v, wpList P ops Q rest (a.put o.dst v) (w.setRow g (u8s (cpy L off dLen s.data.toList)).toArray)) :
    wpList P ops Q (o :: rest) a w := by
  refine wpList_plain hgd fun K hK' => ?_
  have hrun := run_copy_u8 (P := P) w dT sT o.type elem g off dLen dCap s L t hu hs hg hfit
  unfold Oper.wp
  simp [execOp, hop, resolve, invoke, builtin, hd, hx, hrun, Result.andThen]
  exact hK' _ _ (by simpa using hK _)
theorem infB1 : (Tryz.prog.info? 5).map (fun i => (i.zero, i.size, i.bytes)) = some (some (.int .u8 0), 1, 1) := by kernel_rfl
theorem info8 : (Tryz.prog.info? 5).map (·.size) = some 1 := by kernel_rfl
theorem made_u8 (n : Nat) : madeCells #[Value.int .u8 0] n = (u8s (List.replicate n 0)).toArray := by
  apply Array.toList_inj.1
  rw [toList_madeCells_one]
  simp [u8s]
theorem zeros_make (n : Nat) (hn : n ≤ 1048576) (w : World) : (Instr.makeSlice 40 (.int .i64 n) (.int .i64 n)).run Tryz.prog w = .ok (.slice (some ⟨w.heap.size, 0, none⟩) n n) (w.alloc (.cells (u8s (List.replicate n 0)).toArray 5)) := by
  rw [← made_u8]
  exact run_make_row' (P := Tryz.prog) 40 5 (.int .u8 0) 1 Tryz.underlying40 infB1 rfl .i64 .i64 n (by omega) (by omega) w
theorem conv_row (L : List UInt8) (n g : Nat) (hn : L.length = n) (w : World) {t : TypeId} {fr : Nat × Nat} (hg : w.heap[g]? = some (.cells (u8s L).toArray t fr)) : (convert 40 9 (.slice (some ⟨g, 0, none⟩) n n)).run Tryz.prog w = .ok (.string ⟨L.toArray⟩) w := by
  have := run_convert_bytes_back (P := Tryz.prog) w 40 9 5 ⟨g, 0, none⟩ n L Tryz.underlying40 Tryz.underlying5 Tryz.underlying9 (fun j hj => by
    rw [Ar.add_plain, Nat.zero_add, cell_of_row _ _ j _ _ _ hg]
    have : ((u8s L).toArray)[j]? = some (.int .u8 ((L[j]).toNat : Int)) := by
      rw [List.getElem?_toArray]
      unfold u8s
      rw [List.getElem?_map, List.getElem?_eq_getElem hj]
      rfl
    rw [this])
  rw [hn] at this
  exact this
/-- a text with bytes at their place -/
def laidL (t : List UInt8) (a : Nat) (b : List UInt8) : List UInt8 :=
  cpy (cpy (List.replicate (max t.length (a + b.length)) 0) 0 (max t.length (a + b.length)) t) a (max t.length (a + b.length) - a) b
theorem grown_row {w0 w : World} {g : Nat} (h : Below w0.heap.size w0 w) (hg : w0.heap.size ≤ g) (cs : Array Value) : Below w0.heap.size w0 (w.setRow g cs) :=
  below_setRow h hg cs
set_option maxHeartbeats 2000000 in
theorem laid_any (t : ByteArray) (a : Nat) (b : ByteArray) (ht : t.size ≤ 128) (ha : a ≤ 127) (hb : b.size ≤ 128) (h1 : 1 ≤ b.size) (w : World) :
    Calls Tryz.prog 27 #[.string t, .int .i64 a, .string b] w fun e w' => e = .returned (.string ⟨(laidL t.data.toList a b.data.toList).toArray⟩) ∧ Below w.heap.size w w' := by
  have htl : t.data.toList.length = t.size := by rw [Array.length_toList]; rfl
  have hbl : b.data.toList.length = b.size := by rw [Array.length_toList]; rfl
  obtain ⟨m, hm⟩ : ∃ m, max t.size (a + b.size) = m := ⟨_, rfl⟩
  have hmi : max (t.size : Int) ((a : Int) + (b.size : Int)) = (m : Int) := by omega
  have hL : laidL t.data.toList a b.data.toList = cpy (cpy (List.replicate m 0) 0 m t.data.toList) a (m - a) b.data.toList := by unfold laidL; rw [htl, hbl, hm]
  rw [hL]
  have l1 : (cpy (List.replicate m 0) 0 m t.data.toList).length = m := by rw [cpy_len (by rw [List.length_replicate]; omega), List.length_replicate]
  have l2 : (cpy (cpy (List.replicate m 0) 0 m t.data.toList) a (m - a) b.data.toList).length = m := by rw [cpy_len (by rw [l1]; omega), l1]
  have hma : a < m := by omega
  have hm2 : m ≤ 256 := by omega
  have hmk := zeros_make m (by omega) w
  have HR0 := Lib.hid (heap_alloc_new w (.cells (u8s (List.replicate m 0)).toArray 5))
  have HB0 := Lib.hid (show Below w.heap.size w (w.alloc (.cells (u8s (List.replicate m 0)).toArray 5)) from (Below.refl _ _).alloc (Nat.le_refl _) _)
  have HL1 := Lib.hid l1
  have HL2 := Lib.hid l2
  have HMI := Lib.hid hmi
  have e1 : ((m : Int) - (a : Int)) = ((m - a : Nat) : Int) := by omega
  have e2 : (a : Int) ≤ (m : Int) := by omega
  have e3 : ¬ (m = a) := by omega
  have e4 : ¬ ((m : Int) = (a : Int)) := by omega
  clear hL hm l1 l2 htl hbl
  generalize w.alloc _ = w1 at *
  obtain ⟨v1, hcp1⟩ : ∃ v, (Builtin.copy_ #[40, 9] 3 #[.slice (some ⟨w.heap.size, 0, none⟩) m m, .string t]).run Tryz.prog w1 = .ok v (w1.setRow w.heap.size (u8s (cpy (List.replicate m 0) 0 m t.data.toList)).toArray) := ⟨_, run_copy_u8 w1 _ _ _ 5 w.heap.size 0 m m t (List.replicate m 0) 5 Tryz.underlying40 info8 HR0.out (by rw [List.length_replicate]; omega)⟩
  have HR2 := Lib.hid (setRow_heap' (cs := (u8s (cpy (List.replicate m 0) 0 m t.data.toList)).toArray) HR0.out)
  have HB2 := Lib.hid (grown_row HB0.out (Nat.le_refl _) (u8s (cpy (List.replicate m 0) 0 m t.data.toList)).toArray)
  generalize w1.setRow _ _ = w2 at *
  obtain ⟨v2, hcp2⟩ : ∃ v, (Builtin.copy_ #[40, 9] 3 #[.slice (some ⟨w.heap.size, a, none⟩) (m - a) (m - a), .string b]).run Tryz.prog w2 = .ok v (w2.setRow w.heap.size (u8s (cpy (cpy (List.replicate m 0) 0 m t.data.toList) a (m - a) b.data.toList)).toArray) := ⟨_, run_copy_u8 w2 _ _ _ 5 w.heap.size a (m - a) (m - a) b _ 5 Tryz.underlying40 info8 HR2.out (by rw [HL1.out]; omega)⟩
  have HR3 := Lib.hid (setRow_heap' (cs := (u8s (cpy (cpy (List.replicate m 0) 0 m t.data.toList) a (m - a) b.data.toList)).toArray) HR2.out)
  have HB3 := Lib.hid (grown_row HB2.out (Nat.le_refl _) (u8s (cpy (cpy (List.replicate m 0) 0 m t.data.toList) a (m - a) b.data.toList)).toArray)
  generalize w2.setRow _ _ = w3 at *
  have hcv := conv_row _ m w.heap.size HL2.out w3 HR3.out
  generalize cpy (cpy (List.replicate m 0) 0 m t.data.toList) a (m - a) b.data.toList = L2 at *
  clear HR0 HR2 HR3 HL1 HL2 HB0 HB2
  go_enter Tryz.func27, Tryz.ntmps27
  go_wp2
  go_ret
  exact ⟨rfl, HB3.out⟩
end Go.Proofs.YtcnggidihkcndaaGreatDoor.Da
/- Plain mathematics: an inode's chunks rise, and are few. -/
namespace Go.Proofs.YtcnggidihkcndaaGreatDoor.Da
set_option linter.unusedVariables false
set_option linter.unusedSimpArgs false
open Pk (be bytesLess_be)
open It (Itm Ch rt und key pre UpK rt_iff okI okKey lt)
open Ino (wrK wrK_pfx pfx deK deKE)
def UpC (D : List Ck) : Prop := D.Pairwise fun a b => a.n < b.n
theorem bl_app (p x y : List UInt8) : Op.bytesLess (p ++ x) (p ++ y) = Op.bytesLess x y := by
  induction p with
  | nil => rfl
  | cons a p ih =>
    show (decide (a < a) || (a == a && Op.bytesLess (p ++ x) (p ++ y))) = _
    rw [ih, beq_self_eq_true]
    simp [UInt8.lt_irrefl]
theorem cky_lt {I j k : Nat} (hI : 1 ≤ I) (hj : j < 512) (hk : k < 512) : lt (cky I j).data.toList (cky I k).data.toList = decide (j < k) := by
  have e : ∀ {k}, k < 512 → (cky I k).data.toList = (pfx 3 I).data.toList ++ be 4 k := by
    intro k hk
    obtain ⟨h, _⟩ := wrK_pfx (kyC_ok hI hk)
    unfold cky
    rw [h, ByteArray.data_append, Array.toList_append]
    rfl
  show Op.bytesLess _ _ = _
  rw [e hj, e hk, bl_app, bytesLess_be, Nat.mod_eq_of_lt (show j < 256 ^ 4 by omega), Nat.mod_eq_of_lt (show k < 256 ^ 4 by omega)]
theorem chs_up {D : List Itm} {I : Nat} (hr : rt D = true) (hI : 1 ≤ I) (hI2 : I < 4294967296) : UpC (chs D I) := by
  unfold chs UpC
  rw [List.pairwise_filterMap]
  have hu : UpK key (und D (pfx 3 I)) := (rt_iff.1 hr).1.sub List.filter_sublist
  refine List.Pairwise.imp_of_mem (fun {a b} ha hb hlt => ?_) hu
  intro c hc d hd
  have ga := (List.mem_filter.1 ha).2
  have gb := (List.mem_filter.1 hb).2
  unfold ckOf at hc hd
  split at hc
  · rename_i ka
    split at hd
    · rename_i kb
      obtain ⟨j, j1, j2, j3⟩ := ck_key hI hI2 ga ka
      obtain ⟨k, k1, k2, k3⟩ := ck_key hI hI2 gb kb
      rw [← Option.some.inj hc, ← Option.some.inj hd]
      show (deK a.k).C < (deK b.k).C
      rw [j3, k3]
      have : lt (cky I j).data.toList (cky I k).data.toList = true := by rw [← j2, ← k2]; exact hlt
      rw [cky_lt hI j1 k1] at this
      exact of_decide_eq_true this
    · cases hd
  · cases hc
theorem chs_sz {D : List Itm} {I : Nat} (hr : rt D = true) (hI : 1 ≤ I) (hI2 : I < 4294967296) : ∀ c ∈ chs D I, c.n < 512 ∧ c.v.size ≤ 160 := by
  intro c hc
  obtain ⟨k, v, hk, hm, rfl⟩ := (mem_chs hI hI2 c).1 hc
  have := (rt_iff.1 hr).2 _ hm
  simp only [okI, okKey, Bool.and_eq_true, decide_eq_true_iff] at this
  exact ⟨hk, this.2⟩
theorem up_len : ∀ {E : List Ck} {k : Nat}, UpC E → (∀ c ∈ E, k ≤ c.n ∧ c.n < 512) → k + E.length ≤ 512 ∨ E = []
  | [], k, _, _ => .inr rfl
  | c :: E, k, hu, hz => by
    left
    obtain ⟨h1, h2⟩ := List.pairwise_cons.1 hu
    have hc := hz c List.mem_cons_self
    rcases up_len (k := c.n + 1) h2 (fun d hd => ⟨h1 d hd, (hz d (List.mem_cons_of_mem _ hd)).2⟩) with h | h
    · rw [List.length_cons]; omega
    · subst h; rw [List.length_singleton]; omega
theorem up_len' {E : List Ck} (hu : UpC E) (hz : ∀ c ∈ E, c.n < 512) : E.length ≤ 512 := by
  rcases up_len (k := 0) hu (fun c hc => ⟨Nat.zero_le _, hz c hc⟩) with h | h
  · omega
  · subst h; exact Nat.zero_le _
theorem chs_few {D : List Itm} {I : Nat} (hr : rt D = true) (hI : 1 ≤ I) (hI2 : I < 4294967296) : (chs D I).length ≤ 512 := up_len' (chs_up hr hI hI2) (fun c hc => (chs_sz hr hI hI2 c hc).1)
theorem chs_part {D : List Itm} {I : Nat} (hr : rt D = true) (hI : 1 ≤ I) (hI2 : I < 4294967296) (i : Nat) : (((und D (pfx 3 I)).take i).filterMap ckOf).length ≤ 512 :=
  Nat.le_trans (((List.take_sublist i (und D (pfx 3 I))).filterMap ckOf).length_le) (chs_few hr hI hI2)
end Go.Proofs.YtcnggidihkcndaaGreatDoor.Da
/- Contract of package data's chunksOf. -/
namespace Go.Proofs.YtcnggidihkcndaaGreatDoor.Da
set_option linter.unusedVariables false
set_option linter.unusedSimpArgs false
set_option maxRecDepth 100000
open Go.ChangeShapes Go.WideShapes Go.ChangeAt Go.RowKit
open Ar Rg
open Pk (u8s u8s_length)
open It (Itm Ch MkI MkC rt und key infoI er okI_sizes)
open Ino (vK deK deKE pfx prefix_in parse_in)
theorem infoK : (Tryz.prog.info? 64).map (fun i => (i.zero, i.size, i.bytes)) = some (some (.agg #[.int .u32 0, .string ByteArray.empty, .bool false, .string ByteArray.empty]), 4, 48) := by kernel_rfl
/-- chunks of the call's own -/
abbrev MkK (w wr : World) (v : Value) (D : List Ck) : Prop := Mk enC 4 64 w wr v D
theorem catK {ops : Array Oper} {rest : List Oper} {o : Oper} {a : Act} {Q : Exit → Act → World → Prop} {w wr : World} {v : Value} {D : List Ck} (hM : MkK w wr v D) (E : List Ck) (A : Option Addr) (m c : Nat) {B : Nat} (hm : m = E.length) (hL : Ls enC 4 wr B A E) (hlen : D.length + m ≤ 2932031007402)
    (hgd : o.guard = none) (s x : Operand) (ho : o.op = .call { callee := .builtin .append, args := #[s, x], argTypes := #[44, 44] }) (hs : a.eval s = v) (hx : a.eval x = .slice A m c)
    (h : ∀ v' w', MkK w w' v' (D ++ E) → wr.grownBy w' v.ownBlock → wpList Tryz.prog ops Q rest (a.put o.dst v') w') : wpList Tryz.prog ops Q (o :: rest) a wr := by
  obtain ⟨i0, hi, hz0, hz1, hz2⟩ := info_parts infoK
  exact wpList_cat 44 i0 _ 48 Tryz.underlying44 hi hz0 hz1 hz2 rfl (by decide) enC_len enC_one hM m c hm hL (by unfold maxLen; omega) (by omega) hgd s x ho hs hx h
/-- chunksOf's error -/
def ec (D : List Itm) (I : Nat) : Int := if rt D then (if I = 0 then 1 else 0) else 4
theorem fm_sn {U : List Itm} {i : Nat} {x : Itm} (h : U[i]? = some x) : (U.take (i + 1)).filterMap ckOf = (U.take i).filterMap ckOf ++ (match ckOf x with | some c => [c] | none => []) := by
  rw [List.take_add_one, h, List.filterMap_append]
  cases hc : ckOf x <;> simp [hc]
theorem ls_new_at (w : World) (x : Ck) (e : TypeId) (k B : Nat) (hk : w.heap.size = k) (hB : k < B) : Ls enC 4 (w.alloc (.cells (enC x).toArray e)) B (some ⟨k, 0, none⟩) [x] := by
  subst hk
  exact Ls.new w x e B hB
theorem und_mem {D : List Itm} {p : ByteArray} {x : Itm} (h : x ∈ und D p) : x ∈ D := (List.mem_filter.1 h).1
set_option maxHeartbeats 4000000 in
theorem chunksOf_any (D : List Itm) (I : Nat) (hI : I < 4294967296) (A : Option Addr) (n c B : Nat) (hn : n = D.length) (hc : n ≤ c) (hcm : c ≤ maxLen) (hlen : n ≤ 4398046511104) (w : World) (hB : B ≤ w.heap.size) (hD : Ls It.enc 2 w B A D) :
    Calls Tryz.prog 14 #[.slice A n c, .int .u32 I] w fun e w' => ∃ v, e = .returned (.tuple #[v, .int .i64 (ec D I)]) ∧ MkK w w' v (if ec D I = 0 then chs D I else []) := by
  have HP := Lib.hid (fun w => prefix_in 3 I (by omega) hI w)
  have HU := Lib.hid (fun (w1 : World) (hb : Below w.heap.size w w1) (p : ByteArray) (hp : p.size ≤ 9223372036854775807) => It.under_any D p hp A n c B hn hc hcm (by omega) w1 (Nat.le_trans hB hb.size) (hD.below (hb.mono hB)))
  have hps : (pfx 3 I).size ≤ 9223372036854775807 := by
    unfold pfx
    split
    · decide
    · rw [ByteArray.size_append, Pk.bs_size, Pk.bs_size, Pk.be_length]
      have : (Ino.lt 3).length ≤ 1 := by decide
      omega
  have HPS := Lib.hid hps
  have hun : (und D (pfx 3 I)).length ≤ 4398046511104 := by
    have : (und D (pfx 3 I)).length ≤ D.length := List.length_filter_le _ _
    omega
  have HUN := Lib.hid hun
  have HSZ := Lib.hid (fun (hr : rt D = true) (x : Itm) (hx : x ∈ und D (pfx 3 I)) => (by
    obtain ⟨i, hi, e⟩ := List.getElem_of_mem (und_mem hx)
    exact okI_sizes hr (i := i) (x := x) (by rw [List.getElem?_eq_getElem hi, e]) : x.k.size ≤ 48 ∧ x.v.size ≤ 160))
  have HC := Lib.hid (show chs D I = (und D (pfx 3 I)).filterMap ckOf from rfl)
  clear hps hun hn hc hcm hlen hD
  cases hr : rt D
  · have HE := Lib.hid (show ec D I = 4 by unfold ec; rw [hr]; rfl)
    rw [HE.out]
    rw [hr, show er false = 4 from rfl] at HU
    clear hr
    go_enter Tryz.func14, Tryz.ntmps14
    go_wp2_with fail
    refine (HP.out _).mono ?_
    rintro e w1 ⟨rfl, hb1⟩
    have HB1 := Lib.hid hb1
    clear hb1
    go_wp2_with fail
    refine (HU.out _ HB1.out _ HPS.out).mono ?_
    rintro e w2 ⟨v, rfl, hm⟩
    have HM := Lib.hid (HB1.out.trans (hm.2.mono HB1.out.size))
    obtain ⟨A1, c1, rfl, _⟩ := hm.ls It.enc_len
    clear hm
    go_wp2
    go_ret2
    exact ⟨_, rfl, Mk.nil HM.out⟩
  · rw [hr, show er true = 0 from rfl] at HU
    have HR := Lib.hid hr
    by_cases h0 : I = 0
    · have HE := Lib.hid (show ec D I = 1 by unfold ec; rw [hr, h0]; rfl)
      rw [HE.out]
      have q0 : ((I : Int) == 0) = true := by rw [h0]; rfl
      clear hr h0
      go_enter Tryz.func14, Tryz.ntmps14
      go_wp2_with fail
      refine (HP.out _).mono ?_
      rintro e w1 ⟨rfl, hb1⟩
      have HB1 := Lib.hid hb1
      clear hb1
      go_wp2_with fail
      refine (HU.out _ HB1.out _ HPS.out).mono ?_
      rintro e w2 ⟨v, rfl, hm⟩
      have HM := Lib.hid (HB1.out.trans (hm.2.mono HB1.out.size))
      obtain ⟨A1, c1, rfl, _⟩ := hm.ls It.enc_len
      clear hm
      go_wp2
      go_ret2
      exact ⟨_, rfl, Mk.nil HM.out⟩
    · have HE := Lib.hid (show ec D I = 0 by unfold ec; rw [hr, if_pos rfl, if_neg h0])
      rw [HE.out, HC.out]
      have q0 : ((I : Int) == 0) = false := by rw [beq_eq_false_iff_ne]; omega
      have hI1 : 1 ≤ I := by omega
      clear hr h0
      go_enter Tryz.func14, Tryz.ntmps14
      go_wp2_with fail
      refine (HP.out _).mono ?_
      rintro e w1 ⟨rfl, hb1⟩
      have HB1 := Lib.hid hb1
      clear hb1
      go_wp2_with fail
      refine (HU.out _ HB1.out _ HPS.out).mono ?_
      rintro e w2 ⟨v, rfl, hm⟩
      have HB2 := Lib.hid (HB1.out.trans (hm.2.mono HB1.out.size))
      obtain ⟨A1, c1, hv, _, _, hl1⟩ := hm.ls It.enc_len
      obtain ⟨m, hmm⟩ : ∃ m, (und D (pfx 3 I)).length = m := ⟨_, rfl⟩
      have hl1' : Ls It.enc 2 w2 w2.heap.size A1 (und D (pfx 3 I)) := hl1
      have hv' : v = .slice A1 (und D (pfx 3 I)).length c1 := hv
      rw [hmm] at hv'
      subst hv'
      have HL1 := Lib.hid hl1'
      have HMM := Lib.hid hmm
      have HMX := Lib.hid (show m ≤ 4398046511104 by rw [← hmm]; exact HUN.out)
      have HSZ2 := Lib.hid (fun x hx => HSZ.out HR.out x hx)
      have HPT := Lib.hid (fun i => chs_part HR.out (by omega) hI i)
      clear hm hl1 hl1' hmm hv HU HP HSZ HUN HPS HC HB1 HE
      generalize hU : und D (pfx 3 I) = U at *
      have HUU := Lib.hid hU
      clear hU
      go_wp2_with fail
      go_loopw [8, 27] (fun av v wr => ∃ (i : Nat) (E : List Ck), i ≤ m ∧ v = .int .i64 i ∧ Hid (E = (U.take i).filterMap ckOf) ∧ Hid (E.length ≤ i) ∧ Hid (MkK w2 wr av E)) (fun _ v _ => m - (intOf v).toNat)
      case atStart => exact ⟨0, [], Nat.zero_le _, by go_num, rfl, Nat.le_refl _, Mk.nil (Below.refl _ _)⟩
      case round =>
        obtain ⟨i, E, hi, rfl, hE, hEl, hmk⟩ := hrel
        have hm9 : m ≤ 4398046511104 := HMX.out
        by_cases hlt : i < m
        · obtain ⟨x, hx⟩ : ∃ x, U[i]? = some x := ⟨_, List.getElem?_eq_getElem (by rw [HMM.out]; exact hlt)⟩
          obtain ⟨hk48, hv160⟩ := HSZ2.out x (List.mem_of_getElem? hx)
          obtain ⟨b, o, hAe, hb, hrg⟩ := (HL1.out.below (Hid.out hmk).2) i x hx
          have hbs : b < wr.heap.size := Nat.lt_of_lt_of_le hb (Hid.out hmk).2.size
          have hc0 : wr.cell? ⟨b, o + i * 2, none⟩ = some (.string x.k) := hrg 0 _ rfl
          have hc1 : wr.cell? ⟨b, o + i * 2 + 1, none⟩ = some (.string x.v) := hrg 1 _ rfl
          have hd0 : (wr.alloc (.cells #[.string x.k, .string x.v] 55)).cell? ⟨wr.heap.size, 0, none⟩ = some (.string x.k) := by simp
          have HDR := Lib.hid (heap_alloc_new wr (.cells #[.string x.k, .string x.v] 55))
          have HPA := Lib.hid (fun w => parse_in x.k (by unfold maxLen; omega) w)
          have HM := Lib.hid ((Hid.out hmk).alloc (.cells #[.string x.k, .string x.v] 55))
          have HDN := Lib.hid (fm_sn hx)
          have HE5 := Lib.hid (show E.length ≤ 512 by rw [Hid.out hE]; exact HPT.out i)
          rw [← Hid.out hE] at HDN
          have HEL := Lib.hid (Hid.out hEl)
          clear hrg hmk hx hE hEl
          subst hAe
          go_wp2_with fail
          clear hc0 hc1 hd0
          generalize wr.alloc _ = w3 at *
          refine (HPA.out _).mono ?_
          rintro e w4 ⟨rfl, hb4⟩
          have HDR4 := Lib.hid ((hb4.block _ (row_lt HDR.out)).trans HDR.out)
          have HM4 := Lib.hid (HM.out.go hb4)
          have hgl := row_lt HDR4.out
          have d0 : w4.cell? ⟨wr.heap.size, 0, none⟩ = some (.string x.k) := cell_of_row _ _ 0 _ _ _ HDR4.out
          have d1 : w4.cell? ⟨wr.heap.size, 1, none⟩ = some (.string x.v) := cell_of_row _ _ 1 _ _ _ HDR4.out
          clear hb4 HDR HM HPA
          generalize wr.heap.size = g at *
          by_cases hk : deKE x.k = 0
          · have HCK := Lib.hid (show (match ckOf x with | some c => [c] | none => []) = [(⟨(deK x.k).C, x.k, true, x.v⟩ : Ck)] by unfold ckOf; rw [if_pos hk])
            have qk : (deKE x.k == 0) = true := by rw [hk]; rfl
            have HEL2 := Lib.hid (show (E ++ [(⟨(deK x.k).C, x.k, true, x.v⟩ : Ck)]).length ≤ i + 1 by rw [List.length_append]; have := HEL.out; simp; exact this)
            have HDL := Lib.hid (show E.length + 1 ≤ 2932031007402 by have := HE5.out; omega)
            unfold vK
            generalize deK x.k = q at *
            generalize deKE x.k = q9 at *
            clear hk
            have hb9 : Below w4.heap.size w4 (w4.alloc (.cells #[.int .u8 q.K, .int .u32 q.I, .string q.N, .int .u32 q.C] 60)) := (Below.refl _ _).alloc (Nat.le_refl _) _
            have e0 : (w4.alloc (.cells #[.int .u8 q.K, .int .u32 q.I, .string q.N, .int .u32 q.C] 60)).cell? ⟨g, 0, none⟩ = some (.string x.k) := (hb9.cell (p := ⟨g, 0, none⟩) hgl).trans d0
            have e1 : (w4.alloc (.cells #[.int .u8 q.K, .int .u32 q.I, .string q.N, .int .u32 q.C] 60)).cell? ⟨g, 1, none⟩ = some (.string x.v) := (hb9.cell (p := ⟨g, 1, none⟩) hgl).trans d1
            clear hb9
            go_wp2_with (at_builtin; refine catK ((HM4.out.alloc _).alloc _) [⟨q.C, x.k, true, x.v⟩] _ 1 1 rfl (ls_new_at _ (⟨q.C, x.k, true, x.v⟩ : Ck) _ (w4.heap.size + 1) (w4.heap.size + 2) (by simp) (Nat.lt_succ_self _)) HDL.out rfl _ _ rfl rfl rfl ?_; intro v3 w5 hM3 hG3; have HM5 := Lib.hid hM3; clear hM3 hG3)
            exact ⟨⟨i + 1, _, by omega, by go_num, (by rw [HDN.out, HCK.out] : E ++ [(⟨q.C, x.k, true, x.v⟩ : Ck)] = _), HEL2.out, HM5.out⟩, by simp [intOf] <;> omega⟩
          · have HCK := Lib.hid (show (match ckOf x with | some c => [c] | none => []) = [] by unfold ckOf; rw [if_neg hk])
            have qk : (deKE x.k == 0) = false := by rw [beq_eq_false_iff_ne]; exact hk
            have HEL2 := Lib.hid (show E.length ≤ i + 1 by have := HEL.out; omega)
            have HM5 := Lib.hid (HM4.out.alloc (.cells #[.int .u8 (deK x.k).K, .int .u32 (deK x.k).I, .string (deK x.k).N, .int .u32 (deK x.k).C] 60))
            unfold vK
            generalize deK x.k = q at *
            generalize deKE x.k = q9 at *
            clear hk
            go_wp2_with fail
            exact ⟨⟨i + 1, E, by omega, by go_num, (by rw [HDN.out, HCK.out, List.append_nil] : E = _), HEL2.out, HM5.out⟩, by simp [intOf] <;> omega⟩
        · have HEE := Lib.hid (show E = U.filterMap ckOf by have h := Hid.out hE; rwa [List.take_of_length_le (by rw [HMM.out]; omega)] at h)
          have HM := Lib.hid ((Hid.out hmk).since HB2.out)
          obtain ⟨A5, c5, hv5, _⟩ := (Hid.out hmk).ls enC_len
          subst hv5
          clear hE hEl hmk
          go_wp2
          go_ret2
          exact ⟨_, rfl, by simp only [if_true]; rw [HUU.out, ← HEE.out]; exact HM.out⟩
end Go.Proofs.YtcnggidihkcndaaGreatDoor.Da
/- Contract of package data's find: a chunk by its number, by halves. -/
namespace Go.Proofs.YtcnggidihkcndaaGreatDoor.Da
set_option linter.unusedVariables false
set_option linter.unusedSimpArgs false
set_option maxRecDepth 100000
open Go.ChangeShapes Go.WideShapes Go.ChangeAt Go.RowKit
open Ar Rg
open It (Itm Ch)
open Ino (vK key_in enK chK okK)
def cn (a b : Nat) : Int := if a < b then -1 else if b < a then 1 else 0
theorem isNaN32 (a : Nat) (w : World) : Calls Tryz.prog 57 #[.int .u32 a] w fun e w' => e = .returned (.bool false) ∧ w = w' := by
  go_enter Tryz.func57, Tryz.ntmps57
  go_wp2
  go_ret
  exact ⟨by simp, rfl⟩
theorem compare32 (a b : Nat) (w : World) : Calls Tryz.prog 43 #[.int .u32 a, .int .u32 b] w fun e w' => e = .returned (.int .i64 (cn a b)) ∧ w = w' := by
  have HA := Lib.hid (isNaN32 a)
  have HB := Lib.hid (isNaN32 b)
  unfold cn
  by_cases h1 : a < b
  · have d1 : decide ((a : Int) < (b : Int)) = true := by simp; omega
    rw [if_pos h1]
    go_enter Tryz.func43, Tryz.ntmps43
    go_wp2_with fail
    refine (HA.out _).mono ?_
    rintro e w1 ⟨rfl, rfl⟩
    go_wp2_with fail
    refine (HB.out _).mono ?_
    rintro e w1 ⟨rfl, rfl⟩
    go_wp2
    go_ret
    exact ⟨rfl, rfl⟩
  · have d1 : decide ((a : Int) < (b : Int)) = false := by simp; omega
    rw [if_neg h1]
    by_cases h2 : b < a
    · have d2 : decide ((b : Int) < (a : Int)) = true := by simp; omega
      rw [if_pos h2]
      go_enter Tryz.func43, Tryz.ntmps43
      go_wp2_with fail
      refine (HA.out _).mono ?_
      rintro e w1 ⟨rfl, rfl⟩
      go_wp2_with fail
      refine (HB.out _).mono ?_
      rintro e w1 ⟨rfl, rfl⟩
      go_wp2
      go_ret
      exact ⟨rfl, rfl⟩
    · have d2 : decide ((b : Int) < (a : Int)) = false := by simp; omega
      rw [if_neg h2]
      go_enter Tryz.func43, Tryz.ntmps43
      go_wp2_with fail
      refine (HA.out _).mono ?_
      rintro e w1 ⟨rfl, rfl⟩
      go_wp2_with fail
      refine (HB.out _).mono ?_
      rintro e w1 ⟨rfl, rfl⟩
      go_wp2
      go_ret
      exact ⟨rfl, rfl⟩
theorem findCmp_at (x : Ck) (k : Nat) (c : Int) (hc : cn x.n k = c) (w : World) :
    Calls Tryz.prog 42 #[.agg #[.int .u32 x.n, .string x.k, .bool x.h, .string x.v], .int .u32 k] w fun e w' => e = .returned (.int .i64 c) ∧ Below w.heap.size w w' := by
  subst hc
  have HC := Lib.hid (fun w => compare32 x.n k w)
  have HG := Lib.hid (show Below w.heap.size w (w.alloc (.cells #[.int .u32 x.n, .string x.k, .bool x.h, .string x.v] 64)) from (Below.refl _ w).alloc (Nat.le_refl _) _)
  generalize cn x.n k = c at *
  go_enter Tryz.func42, Tryz.ntmps42
  go_wp2_with fail
  refine (HC.out _).mono ?_
  rintro e w1 ⟨rfl, rfl⟩
  go_wp2
  go_ret
  exact ⟨rfl, HG.out⟩
theorem cn_lt (a b : Nat) : cn a b < 0 ↔ a < b := by
  unfold cn
  split
  · simp [*]
  · split <;> simp [*]
theorem cn_eq (a b : Nat) : cn a b = 0 ↔ a = b := by
  unfold cn
  split
  · constructor
    · intro h; cases h
    · omega
  · split
    · constructor
      · intro h; cases h
      · omega
    · constructor
      · omega
      · intro _; rfl
def GI (D : List Ck) (k : Nat) (c : Nat) : Bool := match D[c]? with | some z => !decide (z.n < k) | none => false
theorem GI_at {D : List Ck} {k : Nat} {z : Ck} {c : Nat} (h : D[c]? = some z) : GI D k c = !decide (z.n < k) := by unfold GI; rw [h]
def At (D : List Ck) (k p : Nat) : Prop := p ≤ D.length ∧ (∀ j y, D[j]? = some y → j < p → y.n < k) ∧ (∀ j y, D[j]? = some y → p ≤ j → k ≤ y.n)
theorem up_lt {D : List Ck} (h : UpC D) {i j : Nat} {x y : Ck} (hx : D[i]? = some x) (hy : D[j]? = some y) (hij : i < j) : x.n < y.n := by
  obtain ⟨h1, rfl⟩ := List.getElem?_eq_some_iff.1 hx
  obtain ⟨h2, rfl⟩ := List.getElem?_eq_some_iff.1 hy
  exact List.pairwise_iff_getElem.1 h i j h1 h2 hij
theorem at_of {D : List Ck} {k p : Nat} (hs : UpC D) (h : Sc.Bs (GI D k) 0 D.length p p) : At D k p := by
  obtain ⟨_, _, h1, h2, h3⟩ := h
  refine ⟨h1, fun j y hy hj => ?_, fun j y hy hj => ?_⟩
  · rcases h2 with h2 | h2
    · omega
    · have hz : D[p - 1]? = some (D[p - 1]'(by omega)) := List.getElem?_eq_getElem _
      rw [GI_at hz] at h2
      have h2 : (D[p - 1]'(by omega)).n < k := by simpa using h2
      by_cases e : j = p - 1
      · subst e
        rw [hz] at hy
        rw [← Option.some.inj hy]; exact h2
      · exact Nat.lt_trans (up_lt hs hy hz (by omega)) h2
  · have hjl : j < D.length := (List.getElem?_eq_some_iff.1 hy).1
    rcases h3 with h3 | h3
    · omega
    · have hz : D[p]? = some (D[p]'(by omega)) := List.getElem?_eq_getElem _
      rw [GI_at hz] at h3
      have h3 : k ≤ (D[p]'(by omega)).n := by simpa using h3
      by_cases e : j = p
      · subst e
        rw [hz] at hy
        rw [← Option.some.inj hy]; exact h3
      · exact Nat.le_of_lt (Nat.lt_of_le_of_lt h3 (up_lt hs hz hy (by omega)))
def found (D : List Ck) (k p : Nat) : Bool := match D[p]? with | some y => decide (y.n = k) | none => false
theorem found_at {D : List Ck} {k p : Nat} {y : Ck} (h : D[p]? = some y) : found D k p = decide (y.n = k) := by unfold found; rw [h]
theorem found_out {D : List Ck} {k p : Nat} (h : D.length ≤ p) : found D k p = false := by unfold found; rw [List.getElem?_eq_none h]
set_option maxHeartbeats 2000000 in
theorem search_any (D : List Ck) (k : Nat) (A : Option Addr) (n cap B : Nat) (hn : n = D.length) (hm : n ≤ 281474976710656) (hs : UpC D) (w : World) (hB : B ≤ w.heap.size) (hD : Ls enC 4 w B A D) :
    Calls Tryz.prog 41 #[.slice A n cap, .int .u32 k, .func (.func 42) #[] #[]] w fun e w' => ∃ p : Nat, At D k p ∧ e = .returned (.tuple #[.int .i64 p, .bool (found D k p)]) ∧ Below w.heap.size w w' := by
  have HN := Lib.hid hn
  have HD := Lib.hid hD
  have HS := Lib.hid hs
  clear hn hD hs
  go_enter Tryz.func41, Tryz.ntmps41
  go_wp2_with fail
  go_loopw [9, 10] (fun v u wr => ∃ lo hi : Nat, v = .int .i64 lo ∧ u = .int .i64 hi ∧ Hid (Sc.Bs (GI D k) 0 n lo hi) ∧ Hid (Below w.heap.size w wr)) (fun v u _ => (intOf u).toNat - (intOf v).toNat)
  case atStart => exact ⟨0, n, by go_num, by go_num, Sc.Bs.start _ (Nat.zero_le _), Below.refl _ _⟩
  case round =>
    obtain ⟨lo, hi, rfl, rfl, hbs, hbel⟩ := hrel
    obtain ⟨_, n2, n3, _⟩ := Hid.out hbs
    have hL := HD.out.below ((Hid.out hbel).mono hB)
    by_cases hlt : lo < hi
    · obtain ⟨h, hh⟩ : ∃ h : Nat, ((lo : Int) + (hi : Int)) / 2 = (h : Int) := ⟨(lo + hi) / 2, by omega⟩
      have n4 : lo ≤ h := by omega
      have n5 : h < hi := by omega
      have n6 : (0 : Int) ≤ (h : Int) := by omega
      have n7 : (h : Int) < (n : Int) := by omega
      obtain ⟨z, hz⟩ : ∃ z, D[h]? = some z := ⟨_, List.getElem?_eq_getElem (by rw [← HN.out]; omega)⟩
      obtain ⟨b, o, hAe, hb, hr⟩ := hL h z hz
      have hbl : b < wr.heap.size := Nat.lt_of_lt_of_le hb (Nat.le_trans hB (Hid.out hbel).size)
      have hc0 : wr.cell? ⟨b, o + h * 4, none⟩ = some (.int .u32 z.n) := hr 0 _ rfl
      have hc1 : wr.cell? ⟨b, o + h * 4 + 1, none⟩ = some (.string z.k) := hr 1 _ rfl
      have hc2 : wr.cell? ⟨b, o + h * 4 + 2, none⟩ = some (.bool z.h) := hr 2 _ rfl
      have hc3 : wr.cell? ⟨b, o + h * 4 + 3, none⟩ = some (.string z.v) := hr 3 _ rfl
      clear hL hr
      subst hAe
      obtain ⟨c, hcf⟩ : ∃ c, cn z.n k = c := ⟨_, rfl⟩
      have hcl := cn_lt z.n k
      rw [hcf] at hcl
      have HCF := Lib.hid hcf
      by_cases hlk : z.n < k
      · have hc : c < 0 := hcl.2 hlk
        have HUP := Lib.hid ((Hid.out hbs).up n4 n5 (by rw [GI_at hz, decide_eq_true hlk]; rfl))
        clear hcl hcf hbs hz hlk
        go_wp2_with (go_at_call 42; refine (findCmp_at z k c HCF.out _).mono ?_; rintro e w1 ⟨rfl, hb1⟩; have HB1 := Lib.hid ((Hid.out hbel).trans (hb1.mono (Hid.out hbel).size)); clear hb1)
        exact ⟨⟨h + 1, hi, by go_num, rfl, HUP.out, HB1.out⟩, by simp [intOf] <;> omega⟩
      · have hc : 0 ≤ c := by
          have : ¬ c < 0 := fun e => hlk (hcl.1 e)
          omega
        have HDN := Lib.hid ((Hid.out hbs).down n4 n5 (by rw [GI_at hz, decide_eq_false hlk]; rfl))
        clear hcl hcf hbs hz hlk
        go_wp2_with (go_at_call 42; refine (findCmp_at z k c HCF.out _).mono ?_; rintro e w1 ⟨rfl, hb1⟩; have HB1 := Lib.hid ((Hid.out hbel).trans (hb1.mono (Hid.out hbel).size)); clear hb1)
        exact ⟨⟨lo, h, rfl, rfl, HDN.out, HB1.out⟩, by simp [intOf] <;> omega⟩
    · obtain rfl : lo = hi := by omega
      have HAT := Lib.hid (at_of HS.out (by have := Hid.out hbs; rw [HN.out] at this; exact this))
      clear hbs
      by_cases hp : lo < n
      · obtain ⟨z, hz⟩ : ∃ z, D[lo]? = some z := ⟨_, List.getElem?_eq_getElem (by rw [← HN.out]; omega)⟩
        obtain ⟨b, o, hAe, hb, hr⟩ := hL lo z hz
        have hbl : b < wr.heap.size := Nat.lt_of_lt_of_le hb (Nat.le_trans hB (Hid.out hbel).size)
        have hc0 : wr.cell? ⟨b, o + lo * 4, none⟩ = some (.int .u32 z.n) := hr 0 _ rfl
        have hc1 : wr.cell? ⟨b, o + lo * 4 + 1, none⟩ = some (.string z.k) := hr 1 _ rfl
        have hc2 : wr.cell? ⟨b, o + lo * 4 + 2, none⟩ = some (.bool z.h) := hr 2 _ rfl
        have hc3 : wr.cell? ⟨b, o + lo * 4 + 3, none⟩ = some (.string z.v) := hr 3 _ rfl
        clear hL hr
        subst hAe
        obtain ⟨c, hcf⟩ : ∃ c, cn z.n k = c := ⟨_, rfl⟩
        have hce := cn_eq z.n k
        rw [hcf] at hce
        have HF := Lib.hid (show found D k lo = (c == 0) by rw [found_at hz, Bool.eq_iff_iff]; simp [hce])
        have HCF := Lib.hid hcf
        clear hcf hce hz
        go_wp2_with (go_at_call 42; refine (findCmp_at z k c HCF.out _).mono ?_; rintro e w1 ⟨rfl, hb1⟩; have HB1 := Lib.hid ((Hid.out hbel).trans (hb1.mono (Hid.out hbel).size)); clear hb1)
        go_ret2
        exact ⟨lo, HAT.out, by rw [HF.out]; rfl, HB1.out⟩
      · have HF := Lib.hid (found_out (D := D) (k := k) (p := lo) (by rw [← HN.out]; omega))
        clear hL
        go_wp2
        go_ret2
        exact ⟨lo, HAT.out, by rw [HF.out]; rfl, Hid.out hbel⟩
/-- the chunk of a number -/
def fnd (D : List Ck) (I k : Nat) : Ck := (D.find? fun c => decide (c.n = k)).getD ⟨k, cky I k, false, ByteArray.empty⟩
theorem fnd_yes {D : List Ck} (hs : UpC D) {I k p : Nat} {c : Ck} (hc : D[p]? = some c) (hk : c.n = k) : fnd D I k = c := by
  unfold fnd
  have hm : c ∈ D := List.mem_of_getElem? hc
  cases hf : D.find? fun c => decide (c.n = k) with
  | none =>
    have := List.find?_eq_none.1 hf c hm
    simp [hk] at this
  | some d =>
    have h1 := List.find?_some hf
    simp only [decide_eq_true_iff] at h1
    obtain ⟨j, hj⟩ := List.mem_iff_getElem?.1 (List.mem_of_find?_eq_some hf)
    show d = c
    rcases Nat.lt_trichotomy j p with h | h | h
    · have := up_lt hs hj hc h; omega
    · subst h; rw [hj] at hc; exact Option.some.inj hc
    · have := up_lt hs hc hj h; omega
theorem fnd_no {D : List Ck} {I k : Nat} (h : ∀ c ∈ D, c.n ≠ k) : fnd D I k = ⟨k, cky I k, false, ByteArray.empty⟩ := by
  unfold fnd
  rw [List.find?_eq_none.2 (fun c hc => by simp [h c hc])]
  rfl
theorem fnd_at {D : List Ck} (hs : UpC D) {I k p : Nat} (ha : At D k p) (hf : found D k p = false) : fnd D I k = ⟨k, cky I k, false, ByteArray.empty⟩ := by
  refine fnd_no fun c hc e => ?_
  obtain ⟨j, hj⟩ := List.mem_iff_getElem?.1 hc
  rcases Nat.lt_trichotomy j p with h | h | h
  · have := ha.2.1 j c hj h; omega
  · subst h
    rw [found_at hj] at hf
    simp [e] at hf
  · have hpl : p < D.length := by have := (List.getElem?_eq_some_iff.1 hj).1; omega
    have hz : D[p]? = some (D[p]'hpl) := List.getElem?_eq_getElem _
    have h1 := up_lt hs hz hj h
    have h2 := ha.2.2 p _ hz (Nat.le_refl _)
    omega
set_option maxHeartbeats 4000000 in
theorem find_any (D : List Ck) (I k : Nat) (hI1 : 1 ≤ I) (hI : I < 4294967296) (hk : k < 512) (A : Option Addr) (n cap B : Nat) (hn : n = D.length) (hm : n ≤ 281474976710656) (hs : UpC D) (w : World) (hB : B ≤ w.heap.size) (hD : Ls enC 4 w B A D) :
    Calls Tryz.prog 25 #[.slice A n cap, .int .u32 I, .int .u32 k] w fun e w' => e = .returned (.agg (enC (fnd D I k)).toArray) ∧ Below w.heap.size w w' := by
  have HR0 := Lib.hid (heap_alloc_new w (.cells #[.int .u32 0, .string ⟨#[]⟩, .bool false, .string ⟨#[]⟩] 64))
  have HB0 := Lib.hid (show Below w.heap.size w (w.alloc (.cells #[.int .u32 0, .string ⟨#[]⟩, .bool false, .string ⟨#[]⟩] 64)) from (Below.refl _ w).alloc (Nat.le_refl _) _)
  have HS := Lib.hid (fun (w1 : World) (hb : Below w.heap.size w w1) => search_any D k A n cap B hn hm hs w1 (Nat.le_trans hB hb.size) (hD.below (hb.mono hB)))
  have HD := Lib.hid hD
  have HN := Lib.hid hn
  have HUP := Lib.hid hs
  have hlim := kyC_lim hI hk
  have hok := kyC_ok hI1 hk
  have HK := Lib.hid (fun w => by
    have h := key_in (kyC I k) hlim w
    rw [show enK (kyC I k) = cky I k by unfold enK; rw [if_pos hok]; rfl, show chK (kyC I k) = 0 by unfold chK; rw [if_pos hok]] at h
    exact h)
  clear hn hs hD hlim hok
  go_enter Tryz.func25, Tryz.ntmps25
  go_wp2_with fail
  generalize w.alloc _ = w1 at *
  refine (HS.out _ HB0.out).mono ?_
  rintro e w2 ⟨p, hat, rfl, hb⟩
  have HR2 := Lib.hid ((hb.block _ (row_lt HR0.out)).trans HR0.out)
  have HB2 := Lib.hid (HB0.out.trans (hb.mono HB0.out.size))
  have HAT := Lib.hid hat
  have hpn : p ≤ n := by rw [HN.out]; exact hat.1
  clear hb hat HS HR0 HB0
  cases hf : found D k p
  · have HF := Lib.hid (fnd_at (I := I) HUP.out HAT.out hf)
    have HF2 := Lib.hid (show (enC (fnd D I k)).toArray = #[.int .u32 k, .string (cky I k), .bool false, .string ⟨#[]⟩] by rw [HF.out]; rfl)
    clear hf HF
    go_wp2_with fail
    refine (HK.out _).mono ?_
    rintro e w3 ⟨rfl, hb⟩
    have HR3 := Lib.hid ((hb.block _ (row_lt HR2.out)).trans HR2.out)
    have HB3 := Lib.hid (HB2.out.trans (hb.mono HB2.out.size))
    clear hb
    generalize cky I k = K at *
    have HR4 := Lib.hid (setRow_heap' (cs := #[.int .u32 k, .string K, .bool false, .string ⟨#[]⟩]) HR3.out)
    have HB4 := Lib.hid (grown_row HB3.out (Nat.le_refl _) #[.int .u32 k, .string K, .bool false, .string ⟨#[]⟩])
    go_wp2_with (refine wpList_store_row rfl 64 (.tmp 6) (.tmp 31) rfl w.heap.size #[.int .u32 k, .string K, .bool false, .string ⟨#[]⟩] rfl rfl 64 _ HR3.out (by kernel_rfl) rfl (by simp [Value.oneCell']) ?_)
    refine bodyPost_ret (v := .agg #[.int .u32 k, .string K, .bool false, .string ⟨#[]⟩]) (results_cell_row rfl _ _ w.heap.size 64 #[.int .u32 k, .string K, .bool false, .string ⟨#[]⟩] (0, 0) _ rfl HR4.out Tryz.underlying64 rfl (by kernel_rfl)) rfl ?_
    exact ⟨by rw [HF2.out], HB4.out⟩
  · have hpl : p < n := by
      rcases Nat.lt_or_ge p n with h | h
      · exact h
      · rw [found_out (by rw [← HN.out]; exact h)] at hf; cases hf
    obtain ⟨z, hz⟩ : ∃ z, D[p]? = some z := ⟨_, List.getElem?_eq_getElem (by rw [← HN.out]; exact hpl)⟩
    rw [found_at hz, decide_eq_true_iff] at hf
    have HF := Lib.hid (fnd_yes (I := I) HUP.out hz hf)
    obtain ⟨b, o, hAe, hb, hr⟩ := (HD.out.below (HB2.out.mono hB)) p z hz
    have hbl : b < w2.heap.size := Nat.lt_of_lt_of_le hb (Nat.le_trans hB HB2.out.size)
    have hc0 : w2.cell? ⟨b, o + p * 4, none⟩ = some (.int .u32 z.n) := hr 0 _ rfl
    have hc1 : w2.cell? ⟨b, o + p * 4 + 1, none⟩ = some (.string z.k) := hr 1 _ rfl
    have hc2 : w2.cell? ⟨b, o + p * 4 + 2, none⟩ = some (.bool z.h) := hr 2 _ rfl
    have hc3 : w2.cell? ⟨b, o + p * 4 + 3, none⟩ = some (.string z.v) := hr 3 _ rfl
    have HR4 := Lib.hid (setRow_heap' (cs := (enC z).toArray) HR2.out)
    have HB4 := Lib.hid (grown_row HB2.out (Nat.le_refl _) (enC z).toArray)
    clear hr hz hf
    subst hAe
    go_wp2_with (refine wpList_store_row rfl 64 (.tmp 6) (.tmp 21) rfl w.heap.size (enC z).toArray rfl rfl 64 _ HR2.out (infoC4 z) rfl (by simp [enC, Value.oneCell']) ?_)
    refine bodyPost_ret (v := .agg (enC z).toArray) (results_cell_row rfl _ _ w.heap.size 64 (enC z).toArray (0, 0) _ rfl HR4.out Tryz.underlying64 rfl (infoC4 z)) rfl ?_
    exact ⟨by rw [HF.out], HB4.out⟩
end Go.Proofs.YtcnggidihkcndaaGreatDoor.Da
/- Contract of package data's read: the bytes from one place on, ahead of another one. -/
namespace Go.Proofs.YtcnggidihkcndaaGreatDoor.Da
set_option linter.unusedVariables false
set_option linter.unusedSimpArgs false
set_option maxRecDepth 100000
open Go.ChangeShapes Go.WideShapes Go.ChangeAt Go.RowKit
open Ar Rg
open Pk (u8s u8s_length)
open It (Itm Ch)
theorem row_runD {P : Program} {ev : Operand → Value} {o : Oper} {w : World} (ty : TypeId) {x : Operand} (ho : o.op = .load ty x) (b : Nat) (hx : ev x = .pointer (some ⟨b, 0, none⟩)) (cs : Array Value) (t : TypeId) (fr : Nat × Nat) (d : TypeDesc) (hg : w.heap[b]? = some (.cells cs t fr))
    (hu : P.underlying ty = some d) (hd : (match d with | .struct _ | .array _ _ => true | _ => false) = true) (hi : (P.info? ty).map (·.size) = some cs.size) : (execOp ev o).run P w = .ok (.value (.agg cs)) w := by
  unfold execOp
  simp only [ho, hx, Instr.loadAt, Instr.sureAddr, Sem.run_bind, Sem.run_pure, Result.andThen_ok, run_loadVar_row w b t ty cs fr d hg hu hd hi]
/-- the byte at a place, of chunks -/
def btC (cs : List Ck) (p : Nat) : UInt8 := match cs.find? fun c => decide (c.n = p / 128) with
  | some c => ((btsB c).data.toList[p % 128]?).getD 0
  | none => 0
def rdC (cs : List Ck) (a e : Nat) : List UInt8 := (List.range (e - a)).map fun j => btC cs (a + j)
theorem rdC_len (cs : List Ck) (a e : Nat) : (rdC cs a e).length = e - a := by unfold rdC; rw [List.length_map, List.length_range]
theorem rdC_get (cs : List Ck) (a e j : Nat) (h : j < e - a) : (rdC cs a e)[j]? = some (btC cs (a + j)) := by
  unfold rdC
  rw [List.getElem?_map, List.getElem?_range h]
  rfl
theorem rdC_nil (a e : Nat) : rdC [] a e = List.replicate (e - a) 0 := by
  apply List.ext_getElem?
  intro j
  by_cases hj : j < e - a
  · rw [rdC_get _ _ _ _ hj, List.getElem?_replicate, if_pos hj]; rfl
  · rw [List.getElem?_eq_none (by rw [rdC_len]; omega), List.getElem?_replicate, if_neg hj]
theorem rdC_ext {cs ds : List Ck} {a e : Nat} (h : ∀ p, a ≤ p → p < e → btC cs p = btC ds p) : rdC cs a e = rdC ds a e := by
  apply List.ext_getElem?
  intro j
  by_cases hj : j < e - a
  · rw [rdC_get _ _ _ _ hj, rdC_get _ _ _ _ hj, h (a + j) (by omega) (by omega)]
  · rw [List.getElem?_eq_none (by rw [rdC_len]; omega), List.getElem?_eq_none (by rw [rdC_len]; omega)]
theorem up_take {cs : List Ck} (hs : UpC cs) {i : Nat} {c d : Ck} (hc : cs[i]? = some c) (hd : d ∈ cs.take i) : d.n < c.n := by
  obtain ⟨j, hj⟩ := List.mem_iff_getElem?.1 hd
  rw [List.getElem?_take] at hj
  split at hj
  · rename_i h; exact up_lt hs hj hc h
  · cases hj
theorem btC_snoc {cs : List Ck} (hs : UpC cs) {i : Nat} {c : Ck} (hc : cs[i]? = some c) (p : Nat) : btC (cs.take (i + 1)) p = if c.n = p / 128 then ((btsB c).data.toList[p % 128]?).getD 0 else btC (cs.take i) p := by
  unfold btC
  rw [List.take_add_one, hc, List.find?_append]
  by_cases h : c.n = p / 128
  · rw [if_pos h]
    have hn : (cs.take i).find? (fun c => decide (c.n = p / 128)) = none := by
      rw [List.find?_eq_none]
      intro d hd
      have := up_take hs hc hd
      simp; omega
    rw [hn]
    simp [h]
  · rw [if_neg h]
    have h2 : (some c).toList.find? (fun c => decide (c.n = p / 128)) = none := by simp [h]
    rw [h2, Option.or_none]
theorem btC_old {cs : List Ck} (hs : UpC cs) {i : Nat} {c : Ck} (hc : cs[i]? = some c) {p : Nat} (h : c.n = p / 128) : btC (cs.take i) p = 0 := by
  unfold btC
  have hn : (cs.take i).find? (fun c => decide (c.n = p / 128)) = none := by
    rw [List.find?_eq_none]
    intro d hd
    have := up_take hs hc hd
    simp; omega
  rw [hn]
theorem bts_le (c : Ck) : (btsB c).data.toList.length ≤ 128 := by rw [btsB_list, List.length_take]; omega
theorem cpy_get {L S : List UInt8} {o n : Nat} (h : o + n ≤ L.length) (j : Nat) : (cpy L o n S)[j]? = if o ≤ j ∧ j < o + min S.length n then S[j - o]? else L[j]? := by
  unfold cpy
  have l1 : (L.take o).length = o := by rw [List.length_take]; omega
  have l2 : (S.take n).length = min S.length n := by rw [List.length_take]; omega
  by_cases h1 : j < o
  · rw [if_neg (by omega), List.append_assoc, List.getElem?_append_left (by omega), List.getElem?_take, if_pos h1]
  · by_cases h2 : j < o + min S.length n
    · rw [if_pos ⟨by omega, h2⟩, List.append_assoc, List.getElem?_append_right (by omega), l1, List.getElem?_append_left (by omega), List.getElem?_take, if_pos (by omega)]
    · rw [if_neg (by omega), List.getElem?_append_right (by rw [List.length_append]; omega), List.length_append, l1, l2, List.getElem?_drop]
      congr 1
      omega
/-- a chunk that has nothing there -/
theorem rd_skip {cs : List Ck} (hs : UpC cs) {i a e : Nat} {c : Ck} (hc : cs[i]? = some c) (h : (btsB c).size ≤ a - c.n * 128) : rdC (cs.take (i + 1)) a e = rdC (cs.take i) a e := by
  have hl : (btsB c).data.toList.length = (btsB c).size := by rw [Array.length_toList]; rfl
  refine rdC_ext fun p hp _ => ?_
  rw [btC_snoc hs hc]
  by_cases hn : c.n = p / 128
  · rw [if_pos hn, btC_old hs hc hn, List.getElem?_eq_none (by rw [hl]; omega)]
    rfl
  · rw [if_neg hn]
/-- no chunk from here on has anything there -/
theorem rd_stop {cs : List Ck} (hs : UpC cs) {i a e : Nat} {c : Ck} (hc : cs[i]? = some c) (h : e ≤ c.n * 128) : rdC (cs.take i) a e = rdC cs a e := by
  refine rdC_ext fun p hp hpe => ?_
  unfold btC
  have e1 : cs.find? (fun c => decide (c.n = p / 128)) = (cs.take i).find? (fun c => decide (c.n = p / 128)) := by
    conv => lhs; rw [← List.take_append_drop i cs]
    rw [List.find?_append]
    have hn : (cs.drop i).find? (fun c => decide (c.n = p / 128)) = none := by
      rw [List.find?_eq_none]
      intro d hd
      obtain ⟨j, hj⟩ := List.mem_iff_getElem?.1 hd
      rw [List.getElem?_drop] at hj
      have h2 : c.n ≤ d.n := by
        rcases Nat.eq_zero_or_pos j with rfl | h0
        · rw [Nat.add_zero, hc] at hj
          cases hj
          exact Nat.le_refl _
        · exact Nat.le_of_lt (up_lt hs hc hj (by omega))
      have : c.n * 128 ≤ d.n * 128 := Nat.mul_le_mul_right _ h2
      simp; omega
    rw [hn, Option.or_none]
  rw [e1]
/-- a chunk's bytes laid at their place -/
theorem rd_step {cs : List Ck} (hs : UpC cs) {i a e f k q : Nat} {c : Ck} (hc : cs[i]? = some c) (hf : c.n * 128 = f) (hfe : f < e) (hae : a < e) (hk : a - f = k) (hkl : k < (btsB c).size) (hq : f + k - a = q) :
    cpy (rdC (cs.take i) a e) q (e - a - q) ((btsB c).data.toList.drop k) = rdC (cs.take (i + 1)) a e := by
  have hl : (btsB c).data.toList.length = (btsB c).size := by rw [Array.length_toList]; rfl
  have h128 := bts_le c
  apply List.ext_getElem?
  intro j
  rw [cpy_get (by rw [rdC_len]; omega)]
  by_cases hj : j < e - a
  · rw [rdC_get _ _ _ _ hj, rdC_get _ _ _ _ hj, btC_snoc hs hc]
    have e1 : (a + j) / 128 * 128 + (a + j) % 128 = a + j := by omega
    by_cases hin : q ≤ j ∧ j < q + min ((btsB c).data.toList.drop k).length (e - a - q)
    · rw [if_pos hin]
      obtain ⟨hi1, hi2⟩ := hin
      rw [List.length_drop] at hi2
      have hn : c.n = (a + j) / 128 := by omega
      rw [if_pos hn, List.getElem?_drop, show k + (j - q) = (a + j) % 128 by omega, List.getElem?_eq_getElem (by omega)]
      rfl
    · rw [if_neg hin]
      rw [List.length_drop] at hin
      by_cases hn : c.n = (a + j) / 128
      · rw [if_pos hn, btC_old hs hc hn, List.getElem?_eq_none (by omega)]
        rfl
      · rw [if_neg hn]
  · have e2 : (rdC (cs.take i) a e)[j]? = none := List.getElem?_eq_none (by rw [rdC_len]; omega)
    rw [if_neg (by omega), e2, List.getElem?_eq_none (by rw [rdC_len]; omega)]
theorem from_at (c : Ck) (f : Nat) (hf : c.n * 128 = f) (h : c.n < 4294967296) (w : World) :
    Calls Tryz.prog 35 #[.agg (enC c).toArray] w fun e w' => e = .returned (.int .i64 (f : Int)) ∧ Below w.heap.size w w' := by
  subst hf
  exact from_any c h w
set_option maxHeartbeats 8000000 in
theorem read_any (D : List Ck) (a e : Nat) (hae : a < e) (he : e ≤ 65536) (A : Option Addr) (n cap B : Nat) (hn : n = D.length) (hm : n ≤ 281474976710656) (hs : UpC D) (hz : ∀ c ∈ D, c.n < 512 ∧ c.v.size ≤ 160) (w : World) (hB : B ≤ w.heap.size) (hD : Ls enC 4 w B A D) :
    Calls Tryz.prog 20 #[.slice A n cap, .int .i64 a, .int .i64 e] w fun e' w' => e' = .returned (.string ⟨(rdC D a e).toArray⟩) ∧ Below w.heap.size w w' := by
  obtain ⟨m, hmm⟩ : ∃ m, e - a = m := ⟨_, rfl⟩
  have e1 : (e : Int) - (a : Int) = (m : Int) := by omega
  have hm9 : m ≤ 65536 := by omega
  have hmk := zeros_make m (by omega) w
  have HR0 := Lib.hid (heap_alloc_new w (.cells (u8s (List.replicate m 0)).toArray 5))
  have HB0 := Lib.hid (show Below w.heap.size w (w.alloc (.cells (u8s (List.replicate m 0)).toArray 5)) from (Below.refl _ _).alloc (Nat.le_refl _) _)
  have HM := Lib.hid hmm
  have HN := Lib.hid hn
  have HD := Lib.hid hD
  have HS := Lib.hid hs
  have HZ := Lib.hid hz
  have HRL := Lib.hid (rdC_len D a e)
  clear hn hD hs hz hmm
  generalize w.alloc _ = w1 at *
  go_enter Tryz.func20, Tryz.ntmps20
  go_wp2_with fail
  go_step3
  go_wp2_with fail
  go_step3
  go_wp2_with fail
  go_loopw [18] (fun iv wr => ∃ i : Nat, i ≤ n ∧ iv = .int .i64 i ∧ Hid (wr.heap[w.heap.size]? = some (.cells (u8s (rdC (D.take i) a e)).toArray 5 (0, 0))) ∧ Hid (Below w.heap.size w wr)) (fun iv _ => n - (intOf iv).toNat)
  case atStart => exact ⟨0, Nat.zero_le _, by go_num, (show w1.heap[w.heap.size]? = some (.cells (u8s (rdC (D.take 0) a e)).toArray 5 (0, 0)) by rw [List.take_zero, rdC_nil, HM.out]; exact HR0.out), HB0.out⟩
  case round =>
    obtain ⟨i, hi, rfl, hrow, hbel⟩ := hrel
    by_cases hlt : i < n
    · obtain ⟨c, hc⟩ : ∃ c, D[i]? = some c := ⟨_, List.getElem?_eq_getElem (by rw [← HN.out]; exact hlt)⟩
      obtain ⟨hc512, hv160⟩ := HZ.out c (List.mem_of_getElem? hc)
      obtain ⟨b, o, hAe, hb, hr⟩ := (HD.out.below ((Hid.out hbel).mono hB)) i c hc
      have hbl : b < wr.heap.size := Nat.lt_of_lt_of_le hb (Nat.le_trans hB (Hid.out hbel).size)
      have hc0 : wr.cell? ⟨b, o + i * 4, none⟩ = some (.int .u32 c.n) := hr 0 _ rfl
      have hc1 : wr.cell? ⟨b, o + i * 4 + 1, none⟩ = some (.string c.k) := hr 1 _ rfl
      have hc2 : wr.cell? ⟨b, o + i * 4 + 2, none⟩ = some (.bool c.h) := hr 2 _ rfl
      have hc3 : wr.cell? ⟨b, o + i * 4 + 3, none⟩ = some (.string c.v) := hr 3 _ rfl
      have HC := Lib.hid hc
      have HV := Lib.hid (show c.v.size ≤ maxLen by unfold maxLen; omega)
      obtain ⟨f, hf⟩ : ∃ f, c.n * 128 = f := ⟨_, rfl⟩
      obtain ⟨k, hk⟩ : ∃ k, a - f = k := ⟨_, rfl⟩
      have hf9 : f < 65536 := by omega
      have hkm : max ((a : Int) - (f : Int)) 0 = (k : Int) := by omega
      have hk9 : k ≤ a := by omega
      have HF := Lib.hid hf
      have HK := Lib.hid hk
      have hbz := btsB_size c
      have hbz9 : (btsB c).size ≤ 128 := by omega
      have HFR := Lib.hid (fun w => from_at c f hf (by omega) w)
      have HBY := Lib.hid (fun w => bytes_any c HV.out w)
      have hal : Below wr.heap.size wr (wr.alloc (.cells (enC c).toArray 64)) := (Below.refl _ _).alloc (Nat.le_refl _) _
      have HQ1 := Lib.hid (heap_alloc_new wr (.cells (enC c).toArray 64))
      have HR1 := Lib.hid ((hal.block _ (row_lt (Hid.out hrow))).trans (Hid.out hrow))
      have HB1 := Lib.hid ((Hid.out hbel).trans (hal.mono (Hid.out hbel).size))
      have HG1 := Lib.hid (show w.heap.size < wr.heap.size from row_lt (Hid.out hrow))
      clear hr hc hal hrow hbel hf hk hbz hv160
      obtain ⟨bb, hbb⟩ : ∃ bb, btsB c = bb := ⟨_, rfl⟩
      rw [hbb] at HBY hbz9
      have HBB := Lib.hid hbb
      clear hbb
      subst hAe
      go_wp2_with (refine wpList_load_row rfl 64 (.tmp 9) rfl wr.heap.size rfl 64 (enC c).toArray (0, 0) _ HQ1.out Tryz.underlying64 rfl (infoC4 c) ?_)
      clear hc0 hc1 hc2 hc3
      change Calls _ _ _ (wr.alloc (.cells (enC c).toArray 64)) _
      generalize wr.alloc _ = w2 at *
      generalize wr.heap.size = g at *
      refine (HBY.out _).mono ?_
      rintro e' w3 ⟨rfl, hb3⟩
      have HQ3 := Lib.hid ((hb3.block _ (row_lt HQ1.out)).trans HQ1.out)
      have HR3 := Lib.hid ((hb3.block _ (row_lt HR1.out)).trans HR1.out)
      have HB3 := Lib.hid (HB1.out.trans (hb3.mono HB1.out.size))
      clear hb3 HQ1 HR1 HB1 HBY
      go_wp2_with (refine wpList_load_row rfl 64 (.tmp 9) rfl g rfl 64 (enC c).toArray (0, 0) _ HQ3.out Tryz.underlying64 rfl (infoC4 c) ?_)
      refine (HFR.out _).mono ?_
      rintro e' w4 ⟨rfl, hb4⟩
      have HQ4 := Lib.hid ((hb4.block _ (row_lt HQ3.out)).trans HQ3.out)
      have HR4 := Lib.hid ((hb4.block _ (row_lt HR3.out)).trans HR3.out)
      have HB4 := Lib.hid (HB3.out.trans (hb4.mono HB3.out.size))
      clear hb4 HQ3 HR3 HB3
      go_wp2_with (refine wpList_load_row rfl 64 (.tmp 9) rfl g rfl 64 (enC c).toArray (0, 0) _ HQ4.out Tryz.underlying64 rfl (infoC4 c) ?_)
      refine (HFR.out _).mono ?_
      rintro e' w5 ⟨rfl, hb5⟩
      have HQ5 := Lib.hid ((hb5.block _ (row_lt HQ4.out)).trans HQ4.out)
      have HR5 := Lib.hid ((hb5.block _ (row_lt HR4.out)).trans HR4.out)
      have HB5 := Lib.hid (HB4.out.trans (hb5.mono HB4.out.size))
      clear hb5 HQ4 HR4 HB4
      by_cases hfe : e ≤ f
      · have d1 : decide (e ≤ f) = true := decide_eq_true hfe
        have HX := Lib.hid (show (rdC (D.take i) a e) = rdC D a e from rd_stop HS.out HC.out (by rw [HF.out]; exact hfe))
        have HR := Lib.hid HR5.out
        rw [HX.out] at HR
        have hcv := conv_row (rdC D a e) m w.heap.size (by rw [HRL.out, HM.out]) w5 HR.out
        generalize hR : rdC D a e = R at *
        have HRR := Lib.hid hR
        clear hR hfe
        go_wp2_with fail
        rw [Exit.noGoto_ret]
        go_ret
        exact ⟨by rw [HRR.out]; rfl, HB5.out⟩
      · have d1 : decide (e ≤ f) = false := decide_eq_false hfe
        by_cases hsk : bb.size ≤ k
        · have d2 : decide (bb.size ≤ k) = true := decide_eq_true hsk
          have HX := Lib.hid (show rdC (D.take (i + 1)) a e = rdC (D.take i) a e from rd_skip HS.out HC.out (by rw [HBB.out, HF.out, HK.out]; exact hsk))
          clear hsk hfe
          go_wp2_with fail
          exact ⟨⟨i + 1, by omega, by go_num, (by rw [HX.out]; exact HR5.out), HB5.out⟩, by simp [intOf] <;> omega⟩
        · have d2 : decide (bb.size ≤ k) = false := decide_eq_false hsk
          obtain ⟨q, hq⟩ : ∃ q, f + k - a = q := ⟨_, rfl⟩
          have HX := Lib.hid (show cpy (rdC (D.take i) a e) q (e - a - q) ((btsB c).data.toList.drop k) = rdC (D.take (i + 1)) a e from rd_step HS.out HC.out HF.out (by omega) hae HK.out (by rw [HBB.out]; omega) hq)
          have hkf : a ≤ f + k := by have := HK.out; omega
          have hqm : q < m := by have := HM.out; have := HK.out; omega
          obtain ⟨j, hj⟩ : ∃ j, f + k = j := ⟨_, rfl⟩
          have e7 : (f : Int) + (k : Int) = (j : Int) := by omega
          have e3 : (j : Int) - (a : Int) = (q : Int) := by omega
          have hj9 : j ≤ 200000 := by omega
          have e4 : (q : Int) ≤ (m : Int) := by omega
          have e5 : ¬ m = q := by omega
          have e6 : (k : Int) ≤ (bb.size : Int) := by omega
          have HQM := Lib.hid (show q + (m - q) ≤ (rdC (D.take i) a e).length by rw [rdC_len]; have := HM.out; omega)
          have HXB := Lib.hid (show (bb.extract k bb.size).data.toList = (btsB c).data.toList.drop k by
            rw [HBB.out, ByteArray.data_extract, Array.toList_extract, List.extract_eq_take_drop, List.take_of_length_le]
            rw [List.length_drop, Array.length_toList]
            exact Nat.le_refl _)
          obtain ⟨X, hX⟩ : ∃ X, bb.extract k bb.size = X := ⟨_, rfl⟩
          rw [hX] at HXB
          clear hq hsk hfe hkf hj
          have hw1 : IntKind.i64.wrap (j : Int) = (j : Int) := IntWalk.i64_in _ ⟨by omega, by omega⟩
          have hw2 : IntKind.i64.wrap (q : Int) = (q : Int) := IntWalk.i64_in _ ⟨by omega, by omega⟩
          go_wp2_with fail
          refine wp_region_T (fun w' : World => w'.heap[g]? = some (.cells (enC c).toArray 64 (0, 0))) 11 (by kernel_rfl) (by kernel_rfl) ?_
          have hS : w5.drew.heap[g]? = some (.cells (enC c).toArray 64 (0, 0)) := HQ5.out
          refine take_T 0 39 (.slice (some ⟨w.heap.size, 0, none⟩) m m) rfl (by rfl) (by kernel_rfl) (by decide) (by kernel_rfl) (by kernel_rfl) (by kernel_rfl) (fun _ _ _ h => h) (Or.inl ⟨by rfl, fun w' hSw => by go_simp⟩) hS ?_
          simp only [List.setIfInBounds_toArray, List.set_cons_zero, List.set_cons_succ]
          refine take_T 1 40 (.agg (enC c).toArray) rfl (by rfl) (by kernel_rfl) (by decide) (by kernel_rfl) (by kernel_rfl) (by kernel_rfl) (fun _ _ _ h => h) (Or.inl ⟨by rfl, fun w' hSw => by exact row_runD 64 rfl g rfl _ _ (0, 0) _ hSw Tryz.underlying64 rfl (infoC4 c)⟩) hS ?_
          simp only [List.setIfInBounds_toArray, List.set_cons_zero, List.set_cons_succ]
          refine take_T 3 42 (.int .i64 k) rfl (by rfl) (by kernel_rfl) (by decide) (by kernel_rfl) (by kernel_rfl) (by kernel_rfl) (fun _ _ _ h => h) (Or.inl ⟨by rfl, fun w' hSw => by go_simp⟩) hS ?_
          simp only [List.setIfInBounds_toArray, List.set_cons_zero, List.set_cons_succ]
          refine take_T 5 44 (.int .i64 a) rfl (by rfl) (by kernel_rfl) (by decide) (by kernel_rfl) (by kernel_rfl) (by kernel_rfl) (fun _ _ _ h => h) (Or.inl ⟨by rfl, fun w' hSw => by go_simp⟩) hS ?_
          simp only [List.setIfInBounds_toArray, List.set_cons_zero, List.set_cons_succ]
          refine take_T 8 47 (.string bb) rfl (by rfl) (by kernel_rfl) (by decide) (by kernel_rfl) (by kernel_rfl) (by kernel_rfl) (fun _ _ _ h => h) (Or.inl ⟨by rfl, fun w' hSw => by go_simp⟩) hS ?_
          simp only [List.setIfInBounds_toArray, List.set_cons_zero, List.set_cons_succ]
          refine take_T 9 48 (.int .i64 k) rfl (by rfl) (by kernel_rfl) (by decide) (by kernel_rfl) (by kernel_rfl) (by kernel_rfl) (fun _ _ _ h => h) (Or.inl ⟨by rfl, fun w' hSw => by go_simp⟩) hS ?_
          simp only [List.setIfInBounds_toArray, List.set_cons_zero, List.set_cons_succ]
          refine take_T 10 49 (.string (X)) rfl (by rfl) (by kernel_rfl) (by decide) (by kernel_rfl) (by kernel_rfl) (by kernel_rfl) (fun _ _ _ h => h) (Or.inl ⟨by rfl, fun w' hSw => by go_simp⟩) hS ?_
          simp only [List.setIfInBounds_toArray, List.set_cons_zero, List.set_cons_succ]
          refine only_T 2 rfl (by kernel_rfl) (by decide) (by rfl) (fun K hK => ?_)
          go_wp2_with fail
          refine (HFR.out _).mono ?_
          rintro e' w6 ⟨rfl, hb6⟩
          have hb6' : Below w5.heap.size w5 w6 := (Below.refl _ _).drew.trans hb6
          have HR6 := Lib.hid ((hb6'.block _ (row_lt HR5.out)).trans HR5.out)
          have HB6 := Lib.hid (HB5.out.trans (hb6'.mono HB5.out.size))
          have hS2 : w6.heap[g]? = some (.cells (enC c).toArray 64 (0, 0)) := (hb6'.block _ (row_lt HQ5.out)).trans HQ5.out
          clear hb6 hb6'
          refine hK.out _ _ hS2 ?_
          clear hK K
          try simp only [Act.put, List.setIfInBounds_toArray, List.set_cons_zero, List.set_cons_succ]
          clear hS
          have hS := hS2
          clear hS2
          refine take_T 4 43 (.int .i64 (j : Int)) rfl (by rfl) (by kernel_rfl) (by decide) (by kernel_rfl) (by kernel_rfl) (by kernel_rfl) (fun _ _ _ h => h) (Or.inl ⟨by rfl, fun w' hSw => by go_simp⟩) hS ?_
          simp only [List.setIfInBounds_toArray, List.set_cons_zero, List.set_cons_succ]
          refine take_T 6 45 (.int .i64 (q : Int)) rfl (by rfl) (by kernel_rfl) (by decide) (by kernel_rfl) (by kernel_rfl) (by kernel_rfl) (fun _ _ _ h => h) (Or.inl ⟨by rfl, fun w' hSw => by go_simp⟩) hS ?_
          simp only [List.setIfInBounds_toArray, List.set_cons_zero, List.set_cons_succ]
          refine take_T 7 46 (.slice (some ⟨w.heap.size, q, none⟩) (m - q) (m - q)) rfl (by rfl) (by kernel_rfl) (by decide) (by kernel_rfl) (by kernel_rfl) (by kernel_rfl) (fun _ _ _ h => h) (Or.inl ⟨by rfl, fun w' hSw => by go_simp⟩) hS ?_
          simp only [List.setIfInBounds_toArray, List.set_cons_zero, List.set_cons_succ]
          refine done_T (by kernel_rfl) ?_
          simp only [List.drop_succ_cons, List.drop_zero]
          clear hw1 hw2
          have HR7 := Lib.hid (setRow_heap' (cs := (u8s (cpy (rdC (D.take i) a e) q (m - q) (X).data.toList)).toArray) HR6.out)
          have HB7 := Lib.hid (grown_row HB6.out (Nat.le_refl _) (u8s (cpy (rdC (D.take i) a e) q (m - q) (X).data.toList)).toArray)
          have HX7 := Lib.hid (show cpy (rdC (D.take i) a e) q (m - q) (X).data.toList = rdC (D.take (i + 1)) a e by rw [HXB.out, ← HM.out]; exact HX.out)
          go_wp2_with (refine wpList_copy_u8 rfl (.tmp 46) (.tmp 49) 40 9 rfl 5 Tryz.underlying40 info8 w.heap.size q (m - q) (m - q) rfl (X) rfl (rdC (D.take i) a e) 5 HR6.out HQM.out ?_; intro v)
          exact ⟨⟨i + 1, by omega, by go_num, (by rw [← HX7.out]; exact HR7.out), HB7.out⟩, by simp [intOf] <;> omega⟩
    · have HX := Lib.hid (show (rdC (D.take i) a e) = rdC D a e by rw [List.take_of_length_le (by rw [← HN.out]; omega)])
      have HR := Lib.hid (Hid.out hrow)
      rw [HX.out] at HR
      have hcv := conv_row (rdC D a e) m w.heap.size (by rw [HRL.out, HM.out]) wr HR.out
      have HB := Lib.hid (Hid.out hbel)
      clear hrow hbel
      generalize hR : rdC D a e = R at *
      have HRR := Lib.hid hR
      clear hR
      go_wp2_with fail
      rw [Exit.noGoto_ret]
      go_ret
      exact ⟨by rw [HRR.out]; rfl, HB.out⟩
end Go.Proofs.YtcnggidihkcndaaGreatDoor.Da
/- Contract of package data's written: bytes taken chunk by chunk. -/
namespace Go.Proofs.YtcnggidihkcndaaGreatDoor.Da
set_option linter.unusedVariables false
set_option linter.unusedSimpArgs false
set_option maxRecDepth 100000
open Go.ChangeShapes Go.WideShapes Go.ChangeAt Go.RowKit
open Ar Rg
open Pk (u8s u8s_length)
open It (Itm Ch MkC catC)
section
variable {P : Program} {ops : Array Oper} {Q : Exit → Act → World → Prop} {md : Region.Mode} {S : World → Prop} {n : Nat} {L : Array Bool → Act → World → Prop}
/-- two operations that may come up, each the next one -/
theorem two_T {f : Nat} {listed : Array Bool} {tmps : Array Value} {w : World} (i j : Nat) {oi oj : Oper} (hi : ops[i]? = some oi) (hj : ops[j]? = some oj) (hr : Region.ready md ops listed = [i, j]) (hin : i < n) (hjn : j < n)
    (hwi : Region.wanted oi (yielded ops tmps) = true) (hwj : Region.wanted oj (yielded ops tmps) = true)
    (h1 : ∀ K : Act → World → Prop, Shut (∀ a' w', S w' → wpAnyT P md ops Q S n L f (listed.setIfInBounds i true) a' w' → K a' w') → Oper.wp P oi { tmps := tmps, defers := [] } w K Q)
    (h2 : ∀ K : Act → World → Prop, Shut (∀ a' w', S w' → wpAnyT P md ops Q S n L f (listed.setIfInBounds j true) a' w' → K a' w') → Oper.wp P oj { tmps := tmps, defers := [] } w K Q) :
    wpAnyT P md ops Q S n L (f + 1) listed { tmps := tmps, defers := [] } w := by
  refine ⟨fun h0 => (by rw [hr] at h0; cases h0), fun k hk => ?_⟩
  rw [hr] at hk
  rcases List.mem_cons.1 hk with rfl | hk
  · refine ⟨hin, wpOp_step hi fun K' hK => ?_⟩
    rw [if_pos hwi]
    exact h1 K' (fun a w hS hW => hK a w ⟨hS, hW⟩)
  · have hkj : k = j := by simpa using hk
    subst hkj
    refine ⟨hjn, wpOp_step hj fun K' hK => ?_⟩
    rw [if_pos hwj]
    exact h2 K' (fun a w hS hW => hK a w ⟨hS, hW⟩)
end
/-- what the region leaves that lays bytes into a chunk -/
def WrReg (wr : World) (g : Nat) (c : Ck) (nw : Ch) (s13 : Value) (wx : World) : Prop := ∃ g', s13 = .pointer (some ⟨g', 0, none⟩) ∧ wx.heap[g']? = some (.cells (Sc.enc nw).toArray 43 (0, 0)) ∧ wx.heap[g]? = some (.cells (enC c).toArray 64 (0, 0)) ∧ Below wr.heap.size wr wx
def eqH (a b : Ch) : Bool := decide (a.k = b.k) && (a.h == b.h) && decide (a.v = b.v)
theorem eqH_iff {a b : Ch} : eqH a b = true ↔ a = b := by
  obtain ⟨k, h, v⟩ := a
  obtain ⟨k', h', v'⟩ := b
  simp [eqH, and_assoc]
/-- a chunk's change where bytes are laid into it -/
def nwC (c : Ck) (a : Nat) (b : List UInt8) : Ch := kpC c.k ⟨(laidL (btsB c).data.toList a b).toArray⟩
/-- the changes of bytes that are written -/
def wrL (D : List Ck) (I p : Nat) (b : List UInt8) : List Ch :=
  if h : b = [] then [] else
    (if eqH (nwC (fnd D I (p / 128)) (p % 128) (b.take (min b.length (128 - p % 128)))) (akC (fnd D I (p / 128))) then [] else [nwC (fnd D I (p / 128)) (p % 128) (b.take (min b.length (128 - p % 128)))]) ++
      wrL D I (p + min b.length (128 - p % 128)) (b.drop (min b.length (128 - p % 128)))
termination_by b.length
decreasing_by
  rw [List.length_drop]
  have : b.length ≠ 0 := fun e => h (List.eq_nil_of_length_eq_zero e)
  omega
theorem wrL_nil (D : List Ck) (I p : Nat) : wrL D I p [] = [] := by rw [wrL]; simp
theorem wrL_go {D : List Ck} {I p : Nat} {b : List UInt8} (h : b ≠ []) {c : Ck} {q n : Nat} (hc : fnd D I (p / 128) = c) (hq : p % 128 = q) (hn : min b.length (128 - q) = n) :
    wrL D I p b = (if eqH (nwC c q (b.take n)) (akC c) then [] else [nwC c q (b.take n)]) ++ wrL D I (p + n) (b.drop n) := by
  subst hc hq hn
  rw [wrL, dif_neg h]
theorem zero_ch : (Tryz.prog.info? 43).map (·.size) = some 3 := by kernel_rfl
theorem fnd_v {D : List Ck} (hz : ∀ c ∈ D, c.n < 512 ∧ c.v.size ≤ 160) {I k : Nat} (hk : k < 512) : (fnd D I k).n < 512 ∧ (fnd D I k).v.size ≤ 160 := by
  unfold fnd
  cases hf : D.find? fun c => decide (c.n = k) with
  | none => exact ⟨hk, Nat.zero_le _⟩
  | some c => exact hz c (List.mem_of_find?_eq_some hf)
theorem laidL_len (t : List UInt8) (a : Nat) (b : List UInt8) : (laidL t a b).length = max t.length (a + b.length) := by
  unfold laidL
  have h1 : (cpy (List.replicate (max t.length (a + b.length)) 0) 0 (max t.length (a + b.length)) t).length = max t.length (a + b.length) := by
    rw [cpy_len (by rw [List.length_replicate]; omega), List.length_replicate]
  rw [cpy_len (by rw [h1]; omega), h1]
set_option maxHeartbeats 8000000 in
theorem written_any (D : List Ck) (I : Nat) (hI1 : 1 ≤ I) (hI : I < 4294967296) (p0 : Nat) (s : ByteArray) (hps : p0 + s.size ≤ 65536) (A : Option Addr) (n cap B : Nat) (hn : n = D.length) (hm : n ≤ 281474976710656) (hs : UpC D) (hz : ∀ c ∈ D, c.n < 512 ∧ c.v.size ≤ 160) (w : World) (hB : B ≤ w.heap.size) (hD : Ls enC 4 w B A D) :
    Calls Tryz.prog 15 #[.slice A n cap, .int .u32 I, .int .i64 p0, .string s] w fun e' w' => ∃ v, e' = .returned v ∧ MkC w w' v (wrL D I p0 s.data.toList) := by
  have HFN := Lib.hid (fun (k : Nat) (hk : k < 512) (w1 : World) (hb : Below w.heap.size w w1) => find_any D I k hI1 hI hk A n cap B hn hm hs w1 (Nat.le_trans hB hb.size) (hD.below (hb.mono hB)))
  have HZ := Lib.hid (fun (k : Nat) (hk : k < 512) => fnd_v hz (I := I) hk)
  clear hn hm hs hz hB hD
  go_enter Tryz.func15, Tryz.ntmps15
  go_wp2_with fail
  go_loopw [2, 3, 9] (fun ov bv av wr => ∃ (p : Nat) (t : ByteArray) (E : List Ch), p + t.size ≤ 65536 ∧ ov = .int .i64 p ∧ bv = .string t ∧ Hid (E ++ wrL D I p t.data.toList = wrL D I p0 s.data.toList) ∧ Hid (E.length ≤ p) ∧ Hid (MkC w wr av E)) (fun _ bv _ _ => match bv with | .string t => t.size | _ => 0)
  case atStart => exact ⟨p0, s, [], hps, by go_num, rfl, rfl, Nat.zero_le _, Mk.nil (Below.refl _ _)⟩
  case round =>
    obtain ⟨p, t, E, hpt, rfl, rfl, hE, hEl, hmk⟩ := hrel
    by_cases h0 : t.size = 0
    · have ht : t.data.toList = [] := List.eq_nil_of_length_eq_zero (by rw [Array.length_toList]; exact h0)
      have HE := Lib.hid (show E = wrL D I p0 s.data.toList by have h := Hid.out hE; rwa [ht, wrL_nil, List.append_nil] at h)
      have HM := Lib.hid (Hid.out hmk)
      obtain ⟨A5, c5, hv5, _⟩ := (Hid.out hmk).ls Sc.enc_len
      subst hv5
      have s3 := se3 h0
      clear hE hEl hmk ht h0
      go_wp2
      go_ret
      exact ⟨_, rfl, by rw [← HE.out]; exact HM.out⟩
    · obtain ⟨k, hk⟩ : ∃ k, p / 128 = k := ⟨_, rfl⟩
      obtain ⟨q, hq⟩ : ∃ q, p % 128 = q := ⟨_, rfl⟩
      obtain ⟨nn, hnn⟩ : ∃ nn, min t.size (128 - q) = nn := ⟨_, rfl⟩
      obtain ⟨c, hc⟩ : ∃ c, fnd D I k = c := ⟨_, rfl⟩
      have hk9 : k < 512 := by omega
      have hq9 : q < 128 := by omega
      have hn1 : 1 ≤ nn := by omega
      have hn2 : nn ≤ t.size := by omega
      have hn3 : q + nn ≤ 128 := by omega
      have htl : t.data.toList.length = t.size := by rw [Array.length_toList]; rfl
      have hne : t.data.toList ≠ [] := fun e => h0 (by rw [e] at htl; exact htl.symm)
      have HW := Lib.hid (wrL_go (D := D) (I := I) (p := p) (c := c) (q := q) (n := nn) hne (by rw [hk]; exact hc) hq (by rw [htl]; exact hnn))
      obtain ⟨hcn, hcv⟩ := HZ.out k hk9
      rw [hc] at hcn hcv
      have HFD := Lib.hid (HFN.out k hk9 wr (Hid.out hmk).2)
      rw [hc] at HFD
      have HFD2 := Lib.hid (show Calls Tryz.prog 25 #[.slice A n cap, .int .u32 I, .int .u32 k] wr fun e w' => e = .returned (.agg #[.int .u32 c.n, .string c.k, .bool c.h, .string c.v]) ∧ Below wr.heap.size wr w' from HFD.out)
      have i1 : (p : Int) / 128 = (k : Int) := by omega
      have i2 : (p : Int) % 128 = (q : Int) := by omega
      have i3 : min (t.size : Int) (128 - (q : Int)) = (nn : Int) := by omega
      have i4 : IntKind.u32.wrap (k : Int) = (k : Int) := by simp [IntKind.wrap, IntKind.bits, IntKind.signed]; omega
      have i5 : (nn : Int) ≤ (t.size : Int) := by omega
      have hp9 : p ≤ 65536 := by omega
      have s1 := se1 h0
      have s2 := se2 h0
      have hbz := btsB_size c
      have HBY := Lib.hid (fun w => bytes_any c (by unfold maxLen; omega) w)
      have hxs : (t.extract 0 nn).size = nn := by simp; omega
      have hxl : (t.extract 0 nn).data.toList = t.data.toList.take nn := by
        rw [ByteArray.data_extract, Array.toList_extract, List.extract_eq_take_drop]; simp
      have HLD := Lib.hid (fun w => laid_any (btsB c) q (t.extract 0 nn) (by omega) (by omega) (by omega) (by omega) w)
      rw [hxl] at HLD
      have hyl := laidL_len (btsB c).data.toList q (t.data.toList.take nn)
      have hbl : (btsB c).data.toList.length = (btsB c).size := by rw [Array.length_toList]; rfl
      rw [hbl, List.length_take, htl] at hyl
      have hys : (⟨(laidL (btsB c).data.toList q (t.data.toList.take nn)).toArray⟩ : ByteArray).size ≤ 9223372036854775807 := by
        show (laidL (btsB c).data.toList q (t.data.toList.take nn)).toArray.size ≤ _
        rw [List.size_toArray, hyl]; omega
      have HKP := Lib.hid (fun w => keep_any c.k ⟨(laidL (btsB c).data.toList q (t.data.toList.take nn)).toArray⟩ hys w)
      rw [show kpC c.k ⟨(laidL (btsB c).data.toList q (t.data.toList.take nn)).toArray⟩ = nwC c q (t.data.toList.take nn) from rfl] at HKP
      have HAK := Lib.hid (fun w => asKept_any c w)
      obtain ⟨nw, hnw⟩ : ∃ nw, nwC c q (t.data.toList.take nn) = nw := ⟨_, rfl⟩
      rw [hnw] at HKP HW
      have HKE := Lib.hid (show nw.k = c.k by rw [← hnw]; rfl)
      obtain ⟨bb, hbb⟩ : ∃ bb, btsB c = bb := ⟨_, rfl⟩
      rw [hbb] at HBY HLD HKP
      obtain ⟨yy, hyy⟩ : ∃ yy, (⟨(laidL bb.data.toList q (t.data.toList.take nn)).toArray⟩ : ByteArray) = yy := ⟨_, rfl⟩
      rw [hyy] at HLD HKP
      obtain ⟨xx, hxx⟩ : ∃ xx, t.extract 0 nn = xx := ⟨_, rfl⟩
      rw [hxx] at HLD
      have HXX := Lib.hid hxx
      have HDR := Lib.hid (show (t.extract nn t.size).data.toList = t.data.toList.drop nn by
        rw [ByteArray.data_extract, Array.toList_extract, List.extract_eq_take_drop, List.take_of_length_le]
        rw [List.length_drop, htl]
        exact Nat.le_refl _)
      have HDS := Lib.hid (show (t.extract nn t.size).size = t.size - nn by simp)
      have HM := Lib.hid (Hid.out hmk)
      have HE := Lib.hid (Hid.out hE)
      have HEL := Lib.hid (show E.length + 1 ≤ p + nn by have := Hid.out hEl; omega)
      have HNE := Lib.hid h0
      clear hE hEl hmk hc hk hq hnn hnw hbb hyy hxl hxs hbl htl hne hyl hys hbz hxx h0 HFD hcn hcv
      go_upto_region 6 with (go_at_call 25; refine HFD2.out.mono ?_; rintro e' w3 ⟨rfl, hb3⟩; have HB3 := Lib.hid hb3; have HQ3 := Lib.hid (heap_alloc_new w3 (.cells #[.int .u32 c.n, .string c.k, .bool c.h, .string c.v] 64)); clear hb3)
      rw [i2]
      have HW4 := Lib.hid (HB3.out.trans (((Below.refl w3.heap.size w3).alloc (Nat.le_refl _) (.cells #[.int .u32 c.n, .string c.k, .bool c.h, .string c.v] 64)).mono HB3.out.size))
      have HGW := Lib.hid (show wr.heap.size ≤ w3.heap.size from HB3.out.size)
      generalize w3.alloc _ = w4 at *
      generalize w3.heap.size = g at *
      clear HB3 i1 i2
      go_cut [13] from 14 to 52 (fun s13 wx => Hid (WrReg wr g c nw s13 wx))
      case first =>
        refine wp_region_T (fun w' : World => w'.heap[g]? = some (.cells (enC c).toArray 64 (0, 0))) 11 (by kernel_rfl) (by kernel_rfl) ?_
        have hS : w4.drew.heap[g]? = some (.cells (enC c).toArray 64 (0, 0)) := HQ3.out
        have HBD := Lib.hid (show Below wr.heap.size wr w4.drew from HW4.out.drew)
        have HGG := Lib.hid (row_lt hS)
        refine take_T 0 29 (.pointer (some ⟨g, 1, none⟩)) rfl (by rfl) (by kernel_rfl) (by decide) (by kernel_rfl) (by kernel_rfl) (by kernel_rfl) (fun _ _ _ h => h) (Or.inl ⟨by rfl, fun w' hSw => by go_simp⟩) hS ?_
        simp only [List.setIfInBounds_toArray, List.set_cons_zero, List.set_cons_succ]
        refine take_T 1 30 (.string c.k) rfl (by rfl) (by kernel_rfl) (by decide) (by kernel_rfl) (by kernel_rfl) (by kernel_rfl) (fun _ _ _ h => h) (Or.inl ⟨by rfl, fun w' hSw => by have r := cell_of_row _ _ 1 _ _ _ hSw; simp only [enC] at r; go_simp⟩) hS ?_
        simp only [List.setIfInBounds_toArray, List.set_cons_zero, List.set_cons_succ]
        refine take_T 2 31 (.agg (enC c).toArray) rfl (by rfl) (by kernel_rfl) (by decide) (by kernel_rfl) (by kernel_rfl) (by kernel_rfl) (fun _ _ _ h => h) (Or.inl ⟨by rfl, fun w' hSw => by exact row_runD 64 rfl g rfl _ _ (0, 0) _ hSw Tryz.underlying64 rfl (infoC4 c)⟩) hS ?_
        simp only [List.setIfInBounds_toArray, List.set_cons_zero, List.set_cons_succ]
        refine take_T 4 33 (.int .i64 (q : Int)) rfl (by rfl) (by kernel_rfl) (by decide) (by kernel_rfl) (by kernel_rfl) (by kernel_rfl) (fun _ _ _ h => h) (Or.inl ⟨by rfl, fun w' hSw => by go_simp⟩) hS ?_
        simp only [List.setIfInBounds_toArray, List.set_cons_zero, List.set_cons_succ]
        refine take_T 5 34 (.string t) rfl (by rfl) (by kernel_rfl) (by decide) (by kernel_rfl) (by kernel_rfl) (by kernel_rfl) (fun _ _ _ h => h) (Or.inl ⟨by rfl, fun w' hSw => by go_simp⟩) hS ?_
        simp only [List.setIfInBounds_toArray, List.set_cons_zero, List.set_cons_succ]
        refine take_T 6 35 (.int .i64 (nn : Int)) rfl (by rfl) (by kernel_rfl) (by decide) (by kernel_rfl) (by kernel_rfl) (by kernel_rfl) (fun _ _ _ h => h) (Or.inl ⟨by rfl, fun w' hSw => by go_simp⟩) hS ?_
        simp only [List.setIfInBounds_toArray, List.set_cons_zero, List.set_cons_succ]
        refine take_T 7 36 (.string xx) rfl (by rfl) (by kernel_rfl) (by decide) (by kernel_rfl) (by kernel_rfl) (by kernel_rfl) (fun _ _ _ h => h) (Or.inl ⟨by rfl, fun w' hSw => by have hx := HXX.out; go_simp⟩) hS ?_
        simp only [List.setIfInBounds_toArray, List.set_cons_zero, List.set_cons_succ]
        generalize w4.drew = v0 at *
        refine two_T 3 10 rfl rfl (by kernel_rfl) (by decide) (by decide) (by rfl) (by rfl) (fun K hK => ?_) (fun K hK => ?_)
        · go_wp2_with fail
          refine (HBY.out _).mono ?_
          rintro e' v1 ⟨rfl, hb⟩
          have HBD1 := Lib.hid (HBD.out.trans (hb.mono HBD.out.size))
          have hS2 : v1.heap[g]? = some (.cells (enC c).toArray 64 (0, 0)) := (hb.block _ (row_lt hS)).trans hS
          clear hb
          refine hK.out _ _ hS2 ?_
          clear hK K
          try simp only [Act.put, List.setIfInBounds_toArray, List.set_cons_zero, List.set_cons_succ]
          clear hS
          have hS := hS2
          clear hS2
          refine two_T 8 10 rfl rfl (by kernel_rfl) (by decide) (by decide) (by rfl) (by rfl) (fun K hK => ?_) (fun K hK => ?_)
          · go_wp2_with fail
            refine (HLD.out _).mono ?_
            rintro e' v2 ⟨rfl, hb⟩
            have HBD2 := Lib.hid (HBD1.out.trans (hb.mono HBD1.out.size))
            have hS2 : v2.heap[g]? = some (.cells (enC c).toArray 64 (0, 0)) := (hb.block _ (row_lt hS)).trans hS
            clear hb
            refine hK.out _ _ hS2 ?_
            clear hK K
            try simp only [Act.put, List.setIfInBounds_toArray, List.set_cons_zero, List.set_cons_succ]
            clear hS
            have hS := hS2
            clear hS2
            refine two_T 9 10 rfl rfl (by kernel_rfl) (by decide) (by decide) (by rfl) (by rfl) (fun K hK => ?_) (fun K hK => ?_)
            · go_wp2_with fail
              refine (HKP.out _).mono ?_
              rintro e' v3 ⟨rfl, hb⟩
              have HBD3 := Lib.hid (HBD2.out.trans (hb.mono HBD2.out.size))
              have hS2 : v3.heap[g]? = some (.cells (enC c).toArray 64 (0, 0)) := (hb.block _ (row_lt hS)).trans hS
              clear hb
              refine hK.out _ _ hS2 ?_
              clear hK K
              try simp only [Act.put, List.setIfInBounds_toArray, List.set_cons_zero, List.set_cons_succ]
              clear hS
              have hS := hS2
              clear hS2
              refine only_T 10 rfl (by kernel_rfl) (by decide) (by rfl) (fun K hK => ?_)
              have hb : Below v3.heap.size v3 (v3.alloc (.cells #[.string ⟨#[]⟩, .bool false, .string ⟨#[]⟩] 43)) := (Below.refl _ _).alloc (Nat.le_refl _) _
              have HA4 := Lib.hid (heap_alloc_new v3 (.cells #[.string ⟨#[]⟩, .bool false, .string ⟨#[]⟩] 43))
              have HGA := Lib.hid (show wr.heap.size ≤ v3.heap.size from HBD3.out.size)
              have HNE2 := Lib.hid (show g ≠ v3.heap.size from Nat.ne_of_lt (row_lt hS))
              have HBD4 := Lib.hid (HBD3.out.trans (hb.mono HBD3.out.size))
              have hS2 : (v3.alloc (.cells #[.string ⟨#[]⟩, .bool false, .string ⟨#[]⟩] 43)).heap[g]? = some (.cells (enC c).toArray 64 (0, 0)) := (hb.block _ (row_lt hS)).trans hS
              go_simp
              clear hb
              generalize v3.alloc _ = v4 at *
              generalize v3.heap.size = ga at *
              refine hK.out _ _ hS2 ?_
              clear hK K
              try simp only [Act.put, List.setIfInBounds_toArray, List.set_cons_zero, List.set_cons_succ]
              clear hS
              have hS := hS2
              clear hS2
              refine done_T (by kernel_rfl) ?_
              simp only [List.drop_succ_cons, List.drop_zero]
              have HF := Lib.hid (setRow_heap' (cs := (Sc.enc nw).toArray) HA4.out)
              have HG := Lib.hid (show (v4.setRow ga (Sc.enc nw).toArray).heap[g]? = some (.cells (enC c).toArray 64 (0, 0)) from (setRow_other v4 ga g _ HNE2.out).trans hS)
              have HH := Lib.hid (grown_row HBD4.out HGA.out (Sc.enc nw).toArray)
              go_wp2_with (refine wpList_store_row rfl 43 (.tmp 13) (.tmp 38) rfl ga (Sc.enc nw).toArray rfl rfl 43 #[.string ⟨#[]⟩, .bool false, .string ⟨#[]⟩] HA4.out (infoH3 nw) rfl (all_oneCell_toArray (Sc.enc_one nw)) ?_)
              go_meet
              exact ⟨ga, rfl, HF.out, HG.out, HH.out⟩
            · have hb : Below v2.heap.size v2 (v2.alloc (.cells #[.string ⟨#[]⟩, .bool false, .string ⟨#[]⟩] 43)) := (Below.refl _ _).alloc (Nat.le_refl _) _
              have HA5 := Lib.hid (heap_alloc_new v2 (.cells #[.string ⟨#[]⟩, .bool false, .string ⟨#[]⟩] 43))
              have HGA := Lib.hid (show wr.heap.size ≤ v2.heap.size from HBD2.out.size)
              have HNE2 := Lib.hid (show g ≠ v2.heap.size from Nat.ne_of_lt (row_lt hS))
              have HBD5 := Lib.hid (HBD2.out.trans (hb.mono HBD2.out.size))
              have hS2 : (v2.alloc (.cells #[.string ⟨#[]⟩, .bool false, .string ⟨#[]⟩] 43)).heap[g]? = some (.cells (enC c).toArray 64 (0, 0)) := (hb.block _ (row_lt hS)).trans hS
              go_simp
              clear hb
              generalize v2.alloc _ = v5 at *
              generalize v2.heap.size = ga at *
              refine hK.out _ _ hS2 ?_
              clear hK K
              try simp only [Act.put, List.setIfInBounds_toArray, List.set_cons_zero, List.set_cons_succ]
              clear hS
              have hS := hS2
              clear hS2
              refine only_T 9 rfl (by kernel_rfl) (by decide) (by rfl) (fun K hK => ?_)
              go_wp2_with fail
              refine (HKP.out _).mono ?_
              rintro e' v6 ⟨rfl, hb⟩
              have HBD6 := Lib.hid (HBD5.out.trans (hb.mono HBD5.out.size))
              have hS2 : v6.heap[g]? = some (.cells (enC c).toArray 64 (0, 0)) := (hb.block _ (row_lt hS)).trans hS
              have HA6 := Lib.hid ((hb.block _ (row_lt HA5.out)).trans HA5.out)
              clear hb
              refine hK.out _ _ hS2 ?_
              clear hK K
              try simp only [Act.put, List.setIfInBounds_toArray, List.set_cons_zero, List.set_cons_succ]
              clear hS
              have hS := hS2
              clear hS2
              refine done_T (by kernel_rfl) ?_
              simp only [List.drop_succ_cons, List.drop_zero]
              have HF := Lib.hid (setRow_heap' (cs := (Sc.enc nw).toArray) HA6.out)
              have HG := Lib.hid (show (v6.setRow ga (Sc.enc nw).toArray).heap[g]? = some (.cells (enC c).toArray 64 (0, 0)) from (setRow_other v6 ga g _ HNE2.out).trans hS)
              have HH := Lib.hid (grown_row HBD6.out HGA.out (Sc.enc nw).toArray)
              go_wp2_with (refine wpList_store_row rfl 43 (.tmp 13) (.tmp 38) rfl ga (Sc.enc nw).toArray rfl rfl 43 #[.string ⟨#[]⟩, .bool false, .string ⟨#[]⟩] HA6.out (infoH3 nw) rfl (all_oneCell_toArray (Sc.enc_one nw)) ?_)
              go_meet
              exact ⟨ga, rfl, HF.out, HG.out, HH.out⟩
          · have hb : Below v1.heap.size v1 (v1.alloc (.cells #[.string ⟨#[]⟩, .bool false, .string ⟨#[]⟩] 43)) := (Below.refl _ _).alloc (Nat.le_refl _) _
            have HA7 := Lib.hid (heap_alloc_new v1 (.cells #[.string ⟨#[]⟩, .bool false, .string ⟨#[]⟩] 43))
            have HGA := Lib.hid (show wr.heap.size ≤ v1.heap.size from HBD1.out.size)
            have HNE2 := Lib.hid (show g ≠ v1.heap.size from Nat.ne_of_lt (row_lt hS))
            have HBD7 := Lib.hid (HBD1.out.trans (hb.mono HBD1.out.size))
            have hS2 : (v1.alloc (.cells #[.string ⟨#[]⟩, .bool false, .string ⟨#[]⟩] 43)).heap[g]? = some (.cells (enC c).toArray 64 (0, 0)) := (hb.block _ (row_lt hS)).trans hS
            go_simp
            clear hb
            generalize v1.alloc _ = v7 at *
            generalize v1.heap.size = ga at *
            refine hK.out _ _ hS2 ?_
            clear hK K
            try simp only [Act.put, List.setIfInBounds_toArray, List.set_cons_zero, List.set_cons_succ]
            clear hS
            have hS := hS2
            clear hS2
            refine only_T 8 rfl (by kernel_rfl) (by decide) (by rfl) (fun K hK => ?_)
            go_wp2_with fail
            refine (HLD.out _).mono ?_
            rintro e' v8 ⟨rfl, hb⟩
            have HBD8 := Lib.hid (HBD7.out.trans (hb.mono HBD7.out.size))
            have hS2 : v8.heap[g]? = some (.cells (enC c).toArray 64 (0, 0)) := (hb.block _ (row_lt hS)).trans hS
            have HA8 := Lib.hid ((hb.block _ (row_lt HA7.out)).trans HA7.out)
            clear hb
            refine hK.out _ _ hS2 ?_
            clear hK K
            try simp only [Act.put, List.setIfInBounds_toArray, List.set_cons_zero, List.set_cons_succ]
            clear hS
            have hS := hS2
            clear hS2
            refine only_T 9 rfl (by kernel_rfl) (by decide) (by rfl) (fun K hK => ?_)
            go_wp2_with fail
            refine (HKP.out _).mono ?_
            rintro e' v9 ⟨rfl, hb⟩
            have HBD9 := Lib.hid (HBD8.out.trans (hb.mono HBD8.out.size))
            have hS2 : v9.heap[g]? = some (.cells (enC c).toArray 64 (0, 0)) := (hb.block _ (row_lt hS)).trans hS
            have HA9 := Lib.hid ((hb.block _ (row_lt HA8.out)).trans HA8.out)
            clear hb
            refine hK.out _ _ hS2 ?_
            clear hK K
            try simp only [Act.put, List.setIfInBounds_toArray, List.set_cons_zero, List.set_cons_succ]
            clear hS
            have hS := hS2
            clear hS2
            refine done_T (by kernel_rfl) ?_
            simp only [List.drop_succ_cons, List.drop_zero]
            have HF := Lib.hid (setRow_heap' (cs := (Sc.enc nw).toArray) HA9.out)
            have HG := Lib.hid (show (v9.setRow ga (Sc.enc nw).toArray).heap[g]? = some (.cells (enC c).toArray 64 (0, 0)) from (setRow_other v9 ga g _ HNE2.out).trans hS)
            have HH := Lib.hid (grown_row HBD9.out HGA.out (Sc.enc nw).toArray)
            go_wp2_with (refine wpList_store_row rfl 43 (.tmp 13) (.tmp 38) rfl ga (Sc.enc nw).toArray rfl rfl 43 #[.string ⟨#[]⟩, .bool false, .string ⟨#[]⟩] HA9.out (infoH3 nw) rfl (all_oneCell_toArray (Sc.enc_one nw)) ?_)
            go_meet
            exact ⟨ga, rfl, HF.out, HG.out, HH.out⟩
        · have hb : Below v0.heap.size v0 (v0.alloc (.cells #[.string ⟨#[]⟩, .bool false, .string ⟨#[]⟩] 43)) := (Below.refl _ _).alloc (Nat.le_refl _) _
          have HA10 := Lib.hid (heap_alloc_new v0 (.cells #[.string ⟨#[]⟩, .bool false, .string ⟨#[]⟩] 43))
          have HGA := Lib.hid (show wr.heap.size ≤ v0.heap.size from HBD.out.size)
          have HNE2 := Lib.hid (show g ≠ v0.heap.size from Nat.ne_of_lt (row_lt hS))
          have HBD10 := Lib.hid (HBD.out.trans (hb.mono HBD.out.size))
          have hS2 : (v0.alloc (.cells #[.string ⟨#[]⟩, .bool false, .string ⟨#[]⟩] 43)).heap[g]? = some (.cells (enC c).toArray 64 (0, 0)) := (hb.block _ (row_lt hS)).trans hS
          go_simp
          clear hb
          generalize v0.alloc _ = v10 at *
          generalize v0.heap.size = ga at *
          refine hK.out _ _ hS2 ?_
          clear hK K
          try simp only [Act.put, List.setIfInBounds_toArray, List.set_cons_zero, List.set_cons_succ]
          clear hS
          have hS := hS2
          clear hS2
          refine only_T 3 rfl (by kernel_rfl) (by decide) (by rfl) (fun K hK => ?_)
          go_wp2_with fail
          refine (HBY.out _).mono ?_
          rintro e' v11 ⟨rfl, hb⟩
          have HBD11 := Lib.hid (HBD10.out.trans (hb.mono HBD10.out.size))
          have hS2 : v11.heap[g]? = some (.cells (enC c).toArray 64 (0, 0)) := (hb.block _ (row_lt hS)).trans hS
          have HA11 := Lib.hid ((hb.block _ (row_lt HA10.out)).trans HA10.out)
          clear hb
          refine hK.out _ _ hS2 ?_
          clear hK K
          try simp only [Act.put, List.setIfInBounds_toArray, List.set_cons_zero, List.set_cons_succ]
          clear hS
          have hS := hS2
          clear hS2
          refine only_T 8 rfl (by kernel_rfl) (by decide) (by rfl) (fun K hK => ?_)
          go_wp2_with fail
          refine (HLD.out _).mono ?_
          rintro e' v12 ⟨rfl, hb⟩
          have HBD12 := Lib.hid (HBD11.out.trans (hb.mono HBD11.out.size))
          have hS2 : v12.heap[g]? = some (.cells (enC c).toArray 64 (0, 0)) := (hb.block _ (row_lt hS)).trans hS
          have HA12 := Lib.hid ((hb.block _ (row_lt HA11.out)).trans HA11.out)
          clear hb
          refine hK.out _ _ hS2 ?_
          clear hK K
          try simp only [Act.put, List.setIfInBounds_toArray, List.set_cons_zero, List.set_cons_succ]
          clear hS
          have hS := hS2
          clear hS2
          refine only_T 9 rfl (by kernel_rfl) (by decide) (by rfl) (fun K hK => ?_)
          go_wp2_with fail
          refine (HKP.out _).mono ?_
          rintro e' v13 ⟨rfl, hb⟩
          have HBD13 := Lib.hid (HBD12.out.trans (hb.mono HBD12.out.size))
          have hS2 : v13.heap[g]? = some (.cells (enC c).toArray 64 (0, 0)) := (hb.block _ (row_lt hS)).trans hS
          have HA13 := Lib.hid ((hb.block _ (row_lt HA12.out)).trans HA12.out)
          clear hb
          refine hK.out _ _ hS2 ?_
          clear hK K
          try simp only [Act.put, List.setIfInBounds_toArray, List.set_cons_zero, List.set_cons_succ]
          clear hS
          have hS := hS2
          clear hS2
          refine done_T (by kernel_rfl) ?_
          simp only [List.drop_succ_cons, List.drop_zero]
          have HF := Lib.hid (setRow_heap' (cs := (Sc.enc nw).toArray) HA13.out)
          have HG := Lib.hid (show (v13.setRow ga (Sc.enc nw).toArray).heap[g]? = some (.cells (enC c).toArray 64 (0, 0)) from (setRow_other v13 ga g _ HNE2.out).trans hS)
          have HH := Lib.hid (grown_row HBD13.out HGA.out (Sc.enc nw).toArray)
          go_wp2_with (refine wpList_store_row rfl 43 (.tmp 13) (.tmp 38) rfl ga (Sc.enc nw).toArray rfl rfl 43 #[.string ⟨#[]⟩, .bool false, .string ⟨#[]⟩] HA13.out (infoH3 nw) rfl (all_oneCell_toArray (Sc.enc_one nw)) ?_)
          go_meet
          exact ⟨ga, rfl, HF.out, HG.out, HH.out⟩
      case rest =>
        obtain ⟨ga, hs13, hra, hrc, hbw⟩ := Hid.out hcut
        subst hs13
        have HRA := Lib.hid hra
        have HRC := Lib.hid hrc
        have HM2 := Lib.hid (HM.out.go hbw)
        obtain ⟨nk, nh, nv⟩ := nw
        have hkk : nk = c.k := HKE.out
        subst hkk
        have l1 := row_lt hra
        have l2 := row_lt hrc
        clear hcut hra hrc hbw HW4 HGW HM HKE HKP HLD HBY HFD2 HQ3
        have HW2 : Hid _ := HW
        have hpnn : p + nn ≤ 65536 := by omega
        have j5 : (nn : Int) ≤ (t.size : Int) := by omega
        have HIR := Lib.hid (infoH3 (⟨c.k, nh, nv⟩ : Ch))
        by_cases hh : nh = c.h
        · subst hh
          by_cases hv : nv = c.v
          · subst hv
            have HQ := Lib.hid (show (if eqH (⟨c.k, c.h, c.v⟩ : Ch) (akC c) then ([] : List Ch) else [⟨c.k, c.h, c.v⟩]) = [] by rw [show eqH (⟨c.k, c.h, c.v⟩ : Ch) (akC c) = true from eqH_iff.2 rfl]; rfl)
            go_wp2_with fail
            refine wp_region_G (fun w' => Below wc.heap.size wc w') (by kernel_rfl) (by kernel_rfl) (Below.refl _ _).drew ?_
            refine wpG_val (.agg (Sc.enc (⟨c.k, c.h, c.v⟩ : Ch)).toArray) rfl (by rfl) (fun w' hSw => by have r := (hSw.block _ l1).trans HRA.out; exact row_runD 43 rfl ga rfl _ _ (0, 0) _ r Tryz.underlying43 rfl HIR.out) ?_
            simp only [List.setIfInBounds_toArray, List.set_cons_zero, List.set_cons_succ]
            refine wpG_val (.agg (enC c).toArray) rfl (by rfl) (fun w' hSw => by have r := (hSw.block _ l2).trans HRC.out; exact row_runD 64 rfl g rfl _ _ (0, 0) _ r Tryz.underlying64 rfl (infoC4 c)) ?_
            simp only [List.setIfInBounds_toArray, List.set_cons_zero, List.set_cons_succ]
            refine wpG_call (.agg (Sc.enc (akC c)).toArray) 29 #[.agg (enC c).toArray] rfl (by rfl) (fun w' => by go_simp) (fun w' hSw => (HAK.out w').mono fun e w2 h => ⟨h.1, hSw.trans (h.2.mono hSw.size)⟩) ?_
            simp only [List.setIfInBounds_toArray, List.set_cons_zero, List.set_cons_succ]
            refine wpG_val (.bool false) rfl (by rfl) (fun w' hSw => by simp only [Sc.enc, akC]; go_simp) ?_
            simp only [List.setIfInBounds_toArray, List.set_cons_zero, List.set_cons_succ]
            refine wpG_nil ?_
            intro wS hSw
            have HMS := Lib.hid (HM2.out.go hSw)
            have HRS := Lib.hid (show wS.heap[ga]? = some (.cells #[.string c.k, .bool c.h, .string c.v] 43 (0, 0)) from (hSw.block _ l1).trans HRA.out)
            clear hSw
            have HEN := Lib.hid (show E ++ wrL D I (p + nn) (t.extract nn t.size).data.toList = wrL D I p0 s.data.toList by rw [HDR.out, ← HE.out, HW.out, HQ.out] <;> rfl)
            have HLN := Lib.hid (show E.length ≤ p + nn by have := HEL.out; omega)
            go_wp2_with fail
            exact ⟨⟨p + nn, _, _, (by rw [HDS.out]; omega), by go_num, rfl, HEN.out, HLN.out, HMS.out⟩, by show (t.extract nn t.size).size < t.size; rw [HDS.out]; omega⟩
          · have HQ := Lib.hid (show (if eqH (⟨c.k, c.h, nv⟩ : Ch) (akC c) then ([] : List Ch) else [⟨c.k, c.h, nv⟩]) = [⟨c.k, c.h, nv⟩] by rw [if_neg (fun e => hv (by have := eqH_iff.1 e; unfold akC at this; injection this))])
            have sv : (nv.toList == c.v.toList) = false := by
              rw [beq_eq_false_iff_ne, ByteArray.toList_eq, ByteArray.toList_eq]
              exact fun e => hv (ByteArray.ext (Array.toList_inj.1 e))
            clear hv
            go_wp2_with fail
            refine wp_region_G (fun w' => Below wc.heap.size wc w') (by kernel_rfl) (by kernel_rfl) (Below.refl _ _).drew ?_
            refine wpG_val (.agg (Sc.enc (⟨c.k, c.h, nv⟩ : Ch)).toArray) rfl (by rfl) (fun w' hSw => by have r := (hSw.block _ l1).trans HRA.out; exact row_runD 43 rfl ga rfl _ _ (0, 0) _ r Tryz.underlying43 rfl HIR.out) ?_
            simp only [List.setIfInBounds_toArray, List.set_cons_zero, List.set_cons_succ]
            refine wpG_val (.agg (enC c).toArray) rfl (by rfl) (fun w' hSw => by have r := (hSw.block _ l2).trans HRC.out; exact row_runD 64 rfl g rfl _ _ (0, 0) _ r Tryz.underlying64 rfl (infoC4 c)) ?_
            simp only [List.setIfInBounds_toArray, List.set_cons_zero, List.set_cons_succ]
            refine wpG_call (.agg (Sc.enc (akC c)).toArray) 29 #[.agg (enC c).toArray] rfl (by rfl) (fun w' => by go_simp) (fun w' hSw => (HAK.out w').mono fun e w2 h => ⟨h.1, hSw.trans (h.2.mono hSw.size)⟩) ?_
            simp only [List.setIfInBounds_toArray, List.set_cons_zero, List.set_cons_succ]
            refine wpG_val (.bool true) rfl (by rfl) (fun w' hSw => by simp only [Sc.enc, akC]; go_simp) ?_
            simp only [List.setIfInBounds_toArray, List.set_cons_zero, List.set_cons_succ]
            refine wpG_nil ?_
            intro wS hSw
            have HMS := Lib.hid (HM2.out.go hSw)
            have HRS := Lib.hid (show wS.heap[ga]? = some (.cells #[.string c.k, .bool c.h, .string nv] 43 (0, 0)) from (hSw.block _ l1).trans HRA.out)
            clear hSw
            have HEN := Lib.hid (show (E ++ [(⟨c.k, c.h, nv⟩ : Ch)]) ++ wrL D I (p + nn) (t.extract nn t.size).data.toList = wrL D I p0 s.data.toList by rw [HDR.out, List.append_assoc, ← HE.out, HW.out, HQ.out] <;> rfl)
            have HLN := Lib.hid (show (E ++ [(⟨c.k, c.h, nv⟩ : Ch)]).length ≤ p + nn by rw [List.length_append]; exact HEL.out)
            have HDL := Lib.hid (show E.length + 1 ≤ 3518437208883 by have := HEL.out; omega)
            go_wp2_with (first
              | (refine wpList_load_row rfl 43 (.tmp 13) rfl ga rfl 43 #[.string c.k, .bool c.h, .string nv] (0, 0) _ HRS.out Tryz.underlying43 rfl HIR.out ?_)
              | (at_builtin; refine catC (HMS.out.alloc _) [(⟨c.k, c.h, nv⟩ : Ch)] _ 1 1 rfl (Ls.new _ (⟨c.k, c.h, nv⟩ : Ch) _ _ (Nat.lt_succ_self _)) HDL.out rfl _ _ rfl rfl rfl ?_; intro v5 w5 hM5 hG5; have HM5 := Lib.hid hM5; clear hM5 hG5))
            exact ⟨⟨p + nn, _, _, (by rw [HDS.out]; omega), by go_num, rfl, HEN.out, HLN.out, HM5.out⟩, by show (t.extract nn t.size).size < t.size; rw [HDS.out]; omega⟩
        · have HQ := Lib.hid (show (if eqH (⟨c.k, nh, nv⟩ : Ch) (akC c) then ([] : List Ch) else [⟨c.k, nh, nv⟩]) = [⟨c.k, nh, nv⟩] by rw [if_neg (fun e => hh (by have := eqH_iff.1 e; unfold akC at this; injection this))])
          have sh : (nh == c.h) = false := by rw [beq_eq_false_iff_ne]; exact hh
          clear hh
          go_wp2_with fail
          refine wp_region_G (fun w' => Below wc.heap.size wc w') (by kernel_rfl) (by kernel_rfl) (Below.refl _ _).drew ?_
          refine wpG_val (.agg (Sc.enc (⟨c.k, nh, nv⟩ : Ch)).toArray) rfl (by rfl) (fun w' hSw => by have r := (hSw.block _ l1).trans HRA.out; exact row_runD 43 rfl ga rfl _ _ (0, 0) _ r Tryz.underlying43 rfl HIR.out) ?_
          simp only [List.setIfInBounds_toArray, List.set_cons_zero, List.set_cons_succ]
          refine wpG_val (.agg (enC c).toArray) rfl (by rfl) (fun w' hSw => by have r := (hSw.block _ l2).trans HRC.out; exact row_runD 64 rfl g rfl _ _ (0, 0) _ r Tryz.underlying64 rfl (infoC4 c)) ?_
          simp only [List.setIfInBounds_toArray, List.set_cons_zero, List.set_cons_succ]
          refine wpG_call (.agg (Sc.enc (akC c)).toArray) 29 #[.agg (enC c).toArray] rfl (by rfl) (fun w' => by go_simp) (fun w' hSw => (HAK.out w').mono fun e w2 h => ⟨h.1, hSw.trans (h.2.mono hSw.size)⟩) ?_
          simp only [List.setIfInBounds_toArray, List.set_cons_zero, List.set_cons_succ]
          refine wpG_val (.bool true) rfl (by rfl) (fun w' hSw => by simp only [Sc.enc, akC]; go_simp) ?_
          simp only [List.setIfInBounds_toArray, List.set_cons_zero, List.set_cons_succ]
          refine wpG_nil ?_
          intro wS hSw
          have HMS := Lib.hid (HM2.out.go hSw)
          have HRS := Lib.hid (show wS.heap[ga]? = some (.cells #[.string c.k, .bool nh, .string nv] 43 (0, 0)) from (hSw.block _ l1).trans HRA.out)
          clear hSw
          have HEN := Lib.hid (show (E ++ [(⟨c.k, nh, nv⟩ : Ch)]) ++ wrL D I (p + nn) (t.extract nn t.size).data.toList = wrL D I p0 s.data.toList by rw [HDR.out, List.append_assoc, ← HE.out, HW.out, HQ.out] <;> rfl)
          have HLN := Lib.hid (show (E ++ [(⟨c.k, nh, nv⟩ : Ch)]).length ≤ p + nn by rw [List.length_append]; exact HEL.out)
          have HDL := Lib.hid (show E.length + 1 ≤ 3518437208883 by have := HEL.out; omega)
          go_wp2_with (first
            | (refine wpList_load_row rfl 43 (.tmp 13) rfl ga rfl 43 #[.string c.k, .bool nh, .string nv] (0, 0) _ HRS.out Tryz.underlying43 rfl HIR.out ?_)
            | (at_builtin; refine catC (HMS.out.alloc _) [(⟨c.k, nh, nv⟩ : Ch)] _ 1 1 rfl (Ls.new _ (⟨c.k, nh, nv⟩ : Ch) _ _ (Nat.lt_succ_self _)) HDL.out rfl _ _ rfl rfl rfl ?_; intro v5 w5 hM5 hG5; have HM5 := Lib.hid hM5; clear hM5 hG5))
          exact ⟨⟨p + nn, _, _, (by rw [HDS.out]; omega), by go_num, rfl, HEN.out, HLN.out, HM5.out⟩, by show (t.extract nn t.size).size < t.size; rw [HDS.out]; omega⟩
end Go.Proofs.YtcnggidihkcndaaGreatDoor.Da
/- Contract of package data's cut: what is behind a place is no more. -/
namespace Go.Proofs.YtcnggidihkcndaaGreatDoor.Da
set_option linter.unusedVariables false
set_option linter.unusedSimpArgs false
set_option maxRecDepth 100000
open Go.ChangeShapes Go.WideShapes Go.ChangeAt Go.RowKit
open Ar Rg
open Pk (u8s u8s_length)
open It (Itm Ch MkC catC)
/-- the change of a chunk that is cut -/
def ctC (z : Nat) (c : Ck) : List Ch := if z - c.n * 128 = 0 ∨ z - c.n * 128 < c.v.size then [kpC c.k (c.v.extract 0 (z - c.n * 128))] else []
def ctL (D : List Ck) (z : Nat) : List Ch := D.flatMap (ctC z)
theorem ct_sn {D : List Ck} {i : Nat} {c : Ck} (z : Nat) (h : D[i]? = some c) : ctL (D.take (i + 1)) z = ctL (D.take i) z ++ ctC z c := by
  unfold ctL
  rw [List.take_add_one, h, List.flatMap_append]
  simp
theorem ctC_len (z : Nat) (c : Ck) : (ctC z c).length ≤ 1 := by unfold ctC; split <;> simp
set_option maxHeartbeats 8000000 in
theorem cut_any (D : List Ck) (z : Nat) (hz9 : z ≤ 65536) (A : Option Addr) (n cap B : Nat) (hn : n = D.length) (hm : n ≤ 1099511627776) (hz : ∀ c ∈ D, c.n < 512 ∧ c.v.size ≤ 160) (w : World) (hB : B ≤ w.heap.size) (hD : Ls enC 4 w B A D) :
    Calls Tryz.prog 21 #[.slice A n cap, .int .i64 z] w fun e' w' => ∃ v, e' = .returned v ∧ MkC w w' v (ctL D z) := by
  have HN := Lib.hid hn
  have HD := Lib.hid hD
  have HZ := Lib.hid hz
  clear hn hD hz
  go_enter Tryz.func21, Tryz.ntmps21
  go_wp2_with fail
  go_loopw [5, 11] (fun av iv wr => ∃ (i : Nat) (E : List Ch), i ≤ n ∧ iv = .int .i64 i ∧ Hid (E = ctL (D.take i) z) ∧ Hid (E.length ≤ i) ∧ Hid (MkC w wr av E)) (fun _ iv _ => n - (intOf iv).toNat)
  case atStart => exact ⟨0, [], Nat.zero_le _, by go_num, rfl, Nat.le_refl _, Mk.nil (Below.refl _ _)⟩
  case round =>
    obtain ⟨i, E, hi, rfl, hE, hEl, hmk⟩ := hrel
    by_cases hlt : i < n
    · obtain ⟨c, hc⟩ : ∃ c, D[i]? = some c := ⟨_, List.getElem?_eq_getElem (by rw [← HN.out]; exact hlt)⟩
      obtain ⟨hc512, hv160⟩ := HZ.out c (List.mem_of_getElem? hc)
      obtain ⟨b, o, hAe, hb, hr⟩ := (HD.out.below ((Hid.out hmk).2.mono hB)) i c hc
      have hbl : b < wr.heap.size := Nat.lt_of_lt_of_le hb (Nat.le_trans hB (Hid.out hmk).2.size)
      have hc0 : wr.cell? ⟨b, o + i * 4, none⟩ = some (.int .u32 c.n) := hr 0 _ rfl
      have hc1 : wr.cell? ⟨b, o + i * 4 + 1, none⟩ = some (.string c.k) := hr 1 _ rfl
      have hc2 : wr.cell? ⟨b, o + i * 4 + 2, none⟩ = some (.bool c.h) := hr 2 _ rfl
      have hc3 : wr.cell? ⟨b, o + i * 4 + 3, none⟩ = some (.string c.v) := hr 3 _ rfl
      obtain ⟨f, hf⟩ : ∃ f, c.n * 128 = f := ⟨_, rfl⟩
      obtain ⟨a, ha⟩ : ∃ a, z - f = a := ⟨_, rfl⟩
      have hf9 : f < 65536 := by omega
      have ham : max ((z : Int) - (f : Int)) 0 = (a : Int) := by omega
      have ha9 : a ≤ 65536 := by omega
      have HFR := Lib.hid (fun w => from_at c f hf (by omega) w)
      have HKP := Lib.hid (fun w => keep_any c.k (c.v.extract 0 a) (by simp; omega) w)
      have HCT := Lib.hid (show ctC z c = if a = 0 ∨ a < c.v.size then [kpC c.k (c.v.extract 0 a)] else [] by unfold ctC; rw [hf, ha])
      have HSN := Lib.hid (ct_sn z hc)
      rw [← Hid.out hE] at HSN
      have hal : Below wr.heap.size wr (wr.alloc (.cells (enC c).toArray 64)) := (Below.refl _ _).alloc (Nat.le_refl _) _
      have HQ1 := Lib.hid (heap_alloc_new wr (.cells (enC c).toArray 64))
      have HM1 := Lib.hid ((Hid.out hmk).go hal)
      have HEL := Lib.hid (Hid.out hEl)
      clear hr hc hal hmk hE hEl hf ha
      subst hAe
      go_wp2_with (refine wpList_load_row rfl 64 (.tmp 7) rfl wr.heap.size rfl 64 (enC c).toArray (0, 0) _ HQ1.out Tryz.underlying64 rfl (infoC4 c) ?_)
      clear hc0 hc1 hc2 hc3
      change Calls _ _ _ (wr.alloc (.cells (enC c).toArray 64)) _
      generalize wr.alloc _ = w2 at *
      generalize wr.heap.size = g at *
      refine (HFR.out _).mono ?_
      rintro e' w3 ⟨rfl, hb3⟩
      have HQ3 := Lib.hid ((hb3.block _ (row_lt HQ1.out)).trans HQ1.out)
      have HM3 := Lib.hid (HM1.out.go hb3)
      have d3 : w3.cell? ⟨g, 3, none⟩ = some (.string c.v) := cell_of_row _ _ 3 _ _ _ HQ3.out
      clear hb3 HQ1 HM1 HFR
      by_cases hch : a = 0 ∨ a < c.v.size
      · have HC1 := Lib.hid (show ctC z c = [kpC c.k (c.v.extract 0 a)] by rw [HCT.out, if_pos hch])
        obtain ⟨x, hx⟩ : ∃ x, kpC c.k (c.v.extract 0 a) = x := ⟨_, rfl⟩
        obtain ⟨y, hy⟩ : ∃ y, c.v.extract 0 a = y := ⟨_, rfl⟩
        rw [hx] at HC1 HKP
        rw [hy] at HKP
        have hle : (a : Int) ≤ (c.v.size : Int) := by omega
        have HY := Lib.hid hy
        have HEN := Lib.hid (show E ++ [x] = ctL (D.take (i + 1)) z by rw [HSN.out, HC1.out])
        have HLN := Lib.hid (show (E ++ [x]).length ≤ i + 1 by rw [List.length_append]; have := HEL.out; simp; exact this)
        have HDL := Lib.hid (show E.length + 1 ≤ 3518437208883 by have := HEL.out; omega)
        clear hx hy
        by_cases ha0 : a = 0
        · have q1 : ((a : Int) == 0) = true := by rw [ha0]; rfl
          clear hch ha0
          go_wp2_with fail
          refine wp_region_T (fun w' : World => w'.heap[g]? = some (.cells (enC c).toArray 64 (0, 0))) 9 (by kernel_rfl) (by kernel_rfl) ?_
          have hS : w3.drew.heap[g]? = some (.cells (enC c).toArray 64 (0, 0)) := HQ3.out
          refine take_T 0 29 (u5) rfl (by rfl) (by kernel_rfl) (by decide) (by kernel_rfl) (by kernel_rfl) (by kernel_rfl) (fun _ _ _ h => h) (Or.inl ⟨by rfl, fun w' hSw => by go_simp⟩) hS ?_
          simp only [List.setIfInBounds_toArray, List.set_cons_zero, List.set_cons_succ]
          refine take_T 1 30 (.pointer (some ⟨g, 1, none⟩)) rfl (by rfl) (by kernel_rfl) (by decide) (by kernel_rfl) (by kernel_rfl) (by kernel_rfl) (fun _ _ _ h => h) (Or.inl ⟨by rfl, fun w' hSw => by go_simp⟩) hS ?_
          simp only [List.setIfInBounds_toArray, List.set_cons_zero, List.set_cons_succ]
          refine take_T 2 31 (.string c.k) rfl (by rfl) (by kernel_rfl) (by decide) (by kernel_rfl) (by kernel_rfl) (by kernel_rfl) (fun _ _ _ h => h) (Or.inl ⟨by rfl, fun w' hSw => by have r := cell_of_row _ _ 1 _ _ _ hSw; simp only [enC] at r; go_simp⟩) hS ?_
          simp only [List.setIfInBounds_toArray, List.set_cons_zero, List.set_cons_succ]
          refine take_T 3 32 (.pointer (some ⟨g, 3, none⟩)) rfl (by rfl) (by kernel_rfl) (by decide) (by kernel_rfl) (by kernel_rfl) (by kernel_rfl) (fun _ _ _ h => h) (Or.inl ⟨by rfl, fun w' hSw => by go_simp⟩) hS ?_
          simp only [List.setIfInBounds_toArray, List.set_cons_zero, List.set_cons_succ]
          refine take_T 4 33 (.string c.v) rfl (by rfl) (by kernel_rfl) (by decide) (by kernel_rfl) (by kernel_rfl) (by kernel_rfl) (fun _ _ _ h => h) (Or.inl ⟨by rfl, fun w' hSw => by have r := cell_of_row _ _ 3 _ _ _ hSw; simp only [enC] at r; go_simp⟩) hS ?_
          simp only [List.setIfInBounds_toArray, List.set_cons_zero, List.set_cons_succ]
          refine take_T 5 34 (.int .i64 (a : Int)) rfl (by rfl) (by kernel_rfl) (by decide) (by kernel_rfl) (by kernel_rfl) (by kernel_rfl) (fun _ _ _ h => h) (Or.inl ⟨by rfl, fun w' hSw => by go_simp⟩) hS ?_
          simp only [List.setIfInBounds_toArray, List.set_cons_zero, List.set_cons_succ]
          refine take_T 6 35 (.string y) rfl (by rfl) (by kernel_rfl) (by decide) (by kernel_rfl) (by kernel_rfl) (by kernel_rfl) (fun _ _ _ h => h) (Or.inl ⟨by rfl, fun w' hSw => by have hx := HY.out; go_simp⟩) hS ?_
          simp only [List.setIfInBounds_toArray, List.set_cons_zero, List.set_cons_succ]
          refine only_T 7 rfl (by kernel_rfl) (by decide) (by rfl) (fun K hK => ?_)
          go_wp2_with fail
          refine (HKP.out _).mono ?_
          rintro e' w4 ⟨rfl, hb4⟩
          have hb4' : Below w3.heap.size w3 w4 := (Below.refl _ _).drew.trans hb4
          have HM4 := Lib.hid (HM3.out.go hb4')
          have hS2 : w4.heap[g]? = some (.cells (enC c).toArray 64 (0, 0)) := (hb4'.block _ (row_lt HQ3.out)).trans HQ3.out
          clear hb4 hb4'
          refine hK.out _ _ hS2 ?_
          clear hK K
          try simp only [Act.put, List.setIfInBounds_toArray, List.set_cons_zero, List.set_cons_succ]
          clear hS
          have hS := hS2
          clear hS2
          obtain ⟨xk, xh, xv⟩ := x
          refine only_T 8 rfl (by kernel_rfl) (by decide) (by rfl) (fun K hK => ?_)
          have hS2 : (w4.alloc (.cells #[.string xk, .bool xh, .string xv] 43)).heap[g]? = some (.cells (enC c).toArray 64 (0, 0)) := ((((Below.refl w4.heap.size w4).alloc (Nat.le_refl _) (.cells #[.string xk, .bool xh, .string xv] 43))).block _ (row_lt hS)).trans hS
          have hL := Ls.new w4 (⟨xk, xh, xv⟩ : Ch) 43 (w4.heap.size + 1) (Nat.lt_succ_self _) (enc := Sc.enc) (k := 3)
          have HL := Lib.hid (show Ls Sc.enc 3 (w4.alloc (.cells #[.string xk, .bool xh, .string xv] 43)) (w4.heap.size + 1) (some ⟨w4.heap.size, 0, none⟩) [(⟨xk, xh, xv⟩ : Ch)] from hL)
          have HM5 := Lib.hid (HM4.out.alloc (.cells #[.string xk, .bool xh, .string xv] 43))
          clear hL
          simp only [Sc.enc]
          go_wp2_with fail
          generalize w4.alloc _ = w5 at *
          refine hK.out _ _ hS2 ?_
          clear hK K
          try simp only [Act.put, List.setIfInBounds_toArray, List.set_cons_zero, List.set_cons_succ]
          clear hS hS2
          refine done_T (by kernel_rfl) ?_
          simp only [List.drop_succ_cons, List.drop_zero]
          go_wp2_with (at_builtin; refine catC HM5.out [(⟨xk, xh, xv⟩ : Ch)] _ 1 1 rfl HL.out HDL.out rfl _ _ rfl rfl rfl ?_; intro v5 w6 hM6 hG6; have HM6 := Lib.hid hM6; clear hM6 hG6)
          exact ⟨⟨i + 1, _, by omega, by go_num, HEN.out, HLN.out, HM6.out⟩, by simp [intOf] <;> omega⟩
        · have q1 : ((a : Int) == 0) = false := by rw [beq_eq_false_iff_ne]; omega
          have q2 : decide (a < c.v.size) = true := by rw [decide_eq_true_iff]; omega
          clear hch ha0
          go_wp2_with fail
          refine wp_region_T (fun w' : World => w'.heap[g]? = some (.cells (enC c).toArray 64 (0, 0))) 9 (by kernel_rfl) (by kernel_rfl) ?_
          have hS : w3.drew.heap[g]? = some (.cells (enC c).toArray 64 (0, 0)) := HQ3.out
          refine take_T 0 29 (u5) rfl (by rfl) (by kernel_rfl) (by decide) (by kernel_rfl) (by kernel_rfl) (by kernel_rfl) (fun _ _ _ h => h) (Or.inl ⟨by rfl, fun w' hSw => by go_simp⟩) hS ?_
          simp only [List.setIfInBounds_toArray, List.set_cons_zero, List.set_cons_succ]
          refine take_T 1 30 (.pointer (some ⟨g, 1, none⟩)) rfl (by rfl) (by kernel_rfl) (by decide) (by kernel_rfl) (by kernel_rfl) (by kernel_rfl) (fun _ _ _ h => h) (Or.inl ⟨by rfl, fun w' hSw => by go_simp⟩) hS ?_
          simp only [List.setIfInBounds_toArray, List.set_cons_zero, List.set_cons_succ]
          refine take_T 2 31 (.string c.k) rfl (by rfl) (by kernel_rfl) (by decide) (by kernel_rfl) (by kernel_rfl) (by kernel_rfl) (fun _ _ _ h => h) (Or.inl ⟨by rfl, fun w' hSw => by have r := cell_of_row _ _ 1 _ _ _ hSw; simp only [enC] at r; go_simp⟩) hS ?_
          simp only [List.setIfInBounds_toArray, List.set_cons_zero, List.set_cons_succ]
          refine take_T 3 32 (.pointer (some ⟨g, 3, none⟩)) rfl (by rfl) (by kernel_rfl) (by decide) (by kernel_rfl) (by kernel_rfl) (by kernel_rfl) (fun _ _ _ h => h) (Or.inl ⟨by rfl, fun w' hSw => by go_simp⟩) hS ?_
          simp only [List.setIfInBounds_toArray, List.set_cons_zero, List.set_cons_succ]
          refine take_T 4 33 (.string c.v) rfl (by rfl) (by kernel_rfl) (by decide) (by kernel_rfl) (by kernel_rfl) (by kernel_rfl) (fun _ _ _ h => h) (Or.inl ⟨by rfl, fun w' hSw => by have r := cell_of_row _ _ 3 _ _ _ hSw; simp only [enC] at r; go_simp⟩) hS ?_
          simp only [List.setIfInBounds_toArray, List.set_cons_zero, List.set_cons_succ]
          refine take_T 5 34 (.int .i64 (a : Int)) rfl (by rfl) (by kernel_rfl) (by decide) (by kernel_rfl) (by kernel_rfl) (by kernel_rfl) (fun _ _ _ h => h) (Or.inl ⟨by rfl, fun w' hSw => by go_simp⟩) hS ?_
          simp only [List.setIfInBounds_toArray, List.set_cons_zero, List.set_cons_succ]
          refine take_T 6 35 (.string y) rfl (by rfl) (by kernel_rfl) (by decide) (by kernel_rfl) (by kernel_rfl) (by kernel_rfl) (fun _ _ _ h => h) (Or.inl ⟨by rfl, fun w' hSw => by have hx := HY.out; go_simp⟩) hS ?_
          simp only [List.setIfInBounds_toArray, List.set_cons_zero, List.set_cons_succ]
          refine only_T 7 rfl (by kernel_rfl) (by decide) (by rfl) (fun K hK => ?_)
          go_wp2_with fail
          refine (HKP.out _).mono ?_
          rintro e' w4 ⟨rfl, hb4⟩
          have hb4' : Below w3.heap.size w3 w4 := (Below.refl _ _).drew.trans hb4
          have HM4 := Lib.hid (HM3.out.go hb4')
          have hS2 : w4.heap[g]? = some (.cells (enC c).toArray 64 (0, 0)) := (hb4'.block _ (row_lt HQ3.out)).trans HQ3.out
          clear hb4 hb4'
          refine hK.out _ _ hS2 ?_
          clear hK K
          try simp only [Act.put, List.setIfInBounds_toArray, List.set_cons_zero, List.set_cons_succ]
          clear hS
          have hS := hS2
          clear hS2
          obtain ⟨xk, xh, xv⟩ := x
          refine only_T 8 rfl (by kernel_rfl) (by decide) (by rfl) (fun K hK => ?_)
          have hS2 : (w4.alloc (.cells #[.string xk, .bool xh, .string xv] 43)).heap[g]? = some (.cells (enC c).toArray 64 (0, 0)) := ((((Below.refl w4.heap.size w4).alloc (Nat.le_refl _) (.cells #[.string xk, .bool xh, .string xv] 43))).block _ (row_lt hS)).trans hS
          have hL := Ls.new w4 (⟨xk, xh, xv⟩ : Ch) 43 (w4.heap.size + 1) (Nat.lt_succ_self _) (enc := Sc.enc) (k := 3)
          have HL := Lib.hid (show Ls Sc.enc 3 (w4.alloc (.cells #[.string xk, .bool xh, .string xv] 43)) (w4.heap.size + 1) (some ⟨w4.heap.size, 0, none⟩) [(⟨xk, xh, xv⟩ : Ch)] from hL)
          have HM5 := Lib.hid (HM4.out.alloc (.cells #[.string xk, .bool xh, .string xv] 43))
          clear hL
          simp only [Sc.enc]
          go_wp2_with fail
          generalize w4.alloc _ = w5 at *
          refine hK.out _ _ hS2 ?_
          clear hK K
          try simp only [Act.put, List.setIfInBounds_toArray, List.set_cons_zero, List.set_cons_succ]
          clear hS hS2
          refine done_T (by kernel_rfl) ?_
          simp only [List.drop_succ_cons, List.drop_zero]
          go_wp2_with (at_builtin; refine catC HM5.out [(⟨xk, xh, xv⟩ : Ch)] _ 1 1 rfl HL.out HDL.out rfl _ _ rfl rfl rfl ?_; intro v5 w6 hM6 hG6; have HM6 := Lib.hid hM6; clear hM6 hG6)
          exact ⟨⟨i + 1, _, by omega, by go_num, HEN.out, HLN.out, HM6.out⟩, by simp [intOf] <;> omega⟩
      · have HC1 := Lib.hid (show ctC z c = [] by rw [HCT.out, if_neg hch])
        have q1 : ((a : Int) == 0) = false := by rw [beq_eq_false_iff_ne]; omega
        have q2 : decide (a < c.v.size) = false := by rw [decide_eq_false_iff_not]; omega
        have HEN := Lib.hid (show E = ctL (D.take (i + 1)) z by rw [HSN.out, HC1.out, List.append_nil])
        have HLN := Lib.hid (show E.length ≤ i + 1 by have := HEL.out; omega)
        clear hch
        go_wp2_with fail
        exact ⟨⟨i + 1, E, by omega, by go_num, HEN.out, HLN.out, HM3.out⟩, by simp [intOf] <;> omega⟩
    · have HEE := Lib.hid (show E = ctL D z by have h := Hid.out hE; rwa [List.take_of_length_le (by rw [← HN.out]; omega)] at h)
      have HM := Lib.hid (Hid.out hmk)
      obtain ⟨A5, c5, hv5, _⟩ := (Hid.out hmk).ls Sc.enc_len
      subst hv5
      clear hE hEl hmk
      go_wp2
      go_ret
      exact ⟨_, rfl, by rw [← HEE.out]; exact HM.out⟩
end Go.Proofs.YtcnggidihkcndaaGreatDoor.Da
/- Contracts of package data's Read, Write and Cut. -/
namespace Go.Proofs.YtcnggidihkcndaaGreatDoor.Da
set_option linter.unusedVariables false
set_option linter.unusedSimpArgs false
set_option maxRecDepth 100000
open Go.ChangeShapes Go.WideShapes Go.ChangeAt Go.RowKit
open Ar Rg
open Pk (u8s u8s_length be bytesLess_be)
open It (Itm Ch MkC catC rt und key pre UpK rt_iff okI okKey lt)
open Ino (wrK wrK_pfx pfx deK deKE)
theorem ec_zero {D : List Itm} {I : Nat} (h : ec D I = 0) : rt D = true ∧ 1 ≤ I := by
  unfold ec at h
  split at h
  · rename_i hr
    split at h
    · cases h
    · exact ⟨hr, by omega⟩
  · cases h
/-- Read's and Cut's error -/
def rdE (D : List Itm) (I z : Nat) : Int := if ec D I = 0 then (if 65536 < z then 1 else 0) else ec D I
def rdV (D : List Itm) (I z o n : Nat) : ByteArray := if rdE D I z = 0 then ⟨(rdC (chs D I) o (min (o + n) z)).toArray⟩ else ByteArray.empty
/-- what Write, and what Cut answers -/
def ChPost (w : World) (E : Int) (R : List Ch) (e : Ending) (w' : World) : Prop := ∃ v, e = .returned (.tuple #[v, .int .i64 E]) ∧ MkC w w' v (if E = 0 then R else [])
def wrE (D : List Itm) (I o : Nat) (s : ByteArray) : Int := if ec D I = 0 then (if 65536 < o + s.size then 1 else 0) else ec D I
theorem bne0 {x : Int} (h : x ≠ 0) : (x != 0) = true := by rw [bne_iff_ne]; exact h
set_option maxHeartbeats 1000000 in
theorem Read_any (D : List Itm) (I z o nn : Nat) (hI : I < 4294967296) (hz : z < 4294967296) (ho : o < 4294967296) (hnn : nn < 4294967296) (A : Option Addr) (n c B : Nat) (hn : n = D.length) (hc : n ≤ c) (hcm : c ≤ maxLen) (hlen : n ≤ 4398046511104) (w : World) (hB : B ≤ w.heap.size) (hD : Ls It.enc 2 w B A D) :
    Calls Tryz.prog 11 #[.slice A n c, .int .u32 I, .int .u32 z, .int .u32 o, .int .u32 nn] w fun e w' => e = .returned (.tuple #[.string (rdV D I z o nn), .int .i64 (rdE D I z)]) ∧ Below w.heap.size w w' := by
  have HCH := Lib.hid (chunksOf_any D I hI A n c B hn hc hcm hlen w hB hD)
  clear hD hB hn
  by_cases he : ec D I = 0
  · obtain ⟨hr, hI1⟩ := ec_zero he
    have HUP := Lib.hid (chs_up hr hI1 hI)
    have HSZ := Lib.hid (chs_sz hr hI1 hI)
    have HCL := Lib.hid (show (chs D I).length ≤ 512 from chs_few hr hI1 hI)
    rw [he] at HCH
    by_cases hz9 : 65536 < z
    · have HE := Lib.hid (show rdE D I z = 1 by unfold rdE; rw [if_pos he, if_pos hz9])
      have HV := Lib.hid (show rdV D I z o nn = ⟨#[]⟩ by unfold rdV; rw [HE.out]; rfl)
      have d1 : decide ((65536 : Int) < (z : Int)) = true := by rw [decide_eq_true_iff]; omega
      clear he hz9
      go_enter Tryz.func11, Tryz.ntmps11
      go_wp2_with fail
      (with_reducible refine HCH.out.mono ?_)
      rintro e w1 ⟨v, rfl, hm⟩
      have HB := Lib.hid hm.2
      obtain ⟨A5, c5, hv5, _⟩ := hm.ls enC_len
      subst hv5
      clear hm
      go_wp2
      go_ret2
      exact ⟨by rw [HE.out, HV.out] <;> rfl, HB.out⟩
    · have HE := Lib.hid (show rdE D I z = 0 by unfold rdE; rw [if_pos he, if_neg hz9])
      obtain ⟨e, hee⟩ : ∃ e, min (o + nn) z = e := ⟨_, rfl⟩
      have HV := Lib.hid (show rdV D I z o nn = ⟨(rdC (chs D I) o e).toArray⟩ by unfold rdV; rw [HE.out, if_pos rfl, hee])
      have d1 : decide ((65536 : Int) < (z : Int)) = false := by rw [decide_eq_false_iff_not]; omega
      have e1 : min ((o : Int) + (nn : Int)) (z : Int) = (e : Int) := by omega
      have he9 : e ≤ 65536 := by omega
      by_cases hoe : e ≤ o
      · have HX := Lib.hid (show rdC (chs D I) o e = [] from List.eq_nil_of_length_eq_zero (by rw [rdC_len]; omega))
        have d2 : decide (e ≤ o) = true := decide_eq_true hoe
        clear he hz9 hee hoe
        go_enter Tryz.func11, Tryz.ntmps11
        go_wp2_with fail
        (with_reducible refine HCH.out.mono ?_)
        rintro e' w1 ⟨v, rfl, hm⟩
        have HB := Lib.hid hm.2
        obtain ⟨A5, c5, hv5, _⟩ := hm.ls enC_len
        subst hv5
        clear hm
        go_wp2
        go_ret2
        exact ⟨by rw [HE.out, HV.out, HX.out] <;> rfl, HB.out⟩
      · have d2 : decide (e ≤ o) = false := decide_eq_false hoe
        have ho9 : o < e := by omega
        clear he hz9 hee hoe
        go_enter Tryz.func11, Tryz.ntmps11
        go_wp2_with fail
        (with_reducible refine HCH.out.mono ?_)
        rintro e' w1 ⟨v, rfl, hm⟩
        have HB := Lib.hid hm.2
        obtain ⟨A5, c5, hv5, _, _, hl⟩ := hm.ls enC_len
        simp only [if_true] at hv5 hl
        obtain ⟨m, hmm⟩ : ∃ m, (chs D I).length = m := ⟨_, rfl⟩
        rw [hmm] at hv5
        subst hv5
        have HRD := Lib.hid (read_any (chs D I) o e ho9 he9 A5 m c5 w1.heap.size hmm.symm (by have := HCL.out; omega) HUP.out HSZ.out w1 (Nat.le_refl _) hl)
        clear hm hmm hl
        go_wp2_with fail
        (with_reducible refine HRD.out.mono ?_)
        rintro e' w2 ⟨rfl, hb⟩
        have HB2 := Lib.hid (HB.out.trans (hb.mono HB.out.size))
        clear hb
        go_wp2
        go_ret2
        exact ⟨by rw [HE.out, HV.out] <;> rfl, HB2.out⟩
  · have HE := Lib.hid (show rdE D I z = ec D I by unfold rdE; rw [if_neg he])
    have HV := Lib.hid (show rdV D I z o nn = ⟨#[]⟩ by unfold rdV; rw [HE.out, if_neg he]; rfl)
    have q0 := bne0 he
    obtain ⟨x, hx⟩ : ∃ x, ec D I = x := ⟨_, rfl⟩
    rw [hx] at HCH HE q0 he
    have HNE := Lib.hid he
    clear he hx
    go_enter Tryz.func11, Tryz.ntmps11
    go_wp2_with fail
    (with_reducible refine HCH.out.mono ?_)
    rintro e w1 ⟨v, rfl, hm⟩
    rw [if_neg HNE.out] at hm
    have HB := Lib.hid hm.2
    obtain ⟨A5, c5, hv5, _⟩ := hm.ls enC_len
    subst hv5
    clear hm
    go_wp2
    go_ret2
    exact ⟨by rw [HE.out, HV.out] <;> rfl, HB.out⟩
set_option maxHeartbeats 1000000 in
theorem Write_any (D : List Itm) (I o : Nat) (hI : I < 4294967296) (ho : o < 4294967296) (s : ByteArray) (hs : s.size ≤ 140737488351232) (A : Option Addr) (n c B : Nat) (hn : n = D.length) (hc : n ≤ c) (hcm : c ≤ maxLen) (hlen : n ≤ 4398046511104) (w : World) (hB : B ≤ w.heap.size) (hD : Ls It.enc 2 w B A D) :
    Calls Tryz.prog 9 #[.slice A n c, .int .u32 I, .int .u32 o, .string s] w (ChPost w (wrE D I o s) (wrL (chs D I) I o s.data.toList)) := by
  have HCH := Lib.hid (chunksOf_any D I hI A n c B hn hc hcm hlen w hB hD)
  clear hD hB hn
  by_cases he : ec D I = 0
  · obtain ⟨hr, hI1⟩ := ec_zero he
    have HUP := Lib.hid (chs_up hr hI1 hI)
    have HSZ := Lib.hid (chs_sz hr hI1 hI)
    have HCL := Lib.hid (show (chs D I).length ≤ 512 from chs_few hr hI1 hI)
    rw [he] at HCH
    by_cases hz9 : 65536 < o + s.size
    · have HE := Lib.hid (show wrE D I o s = 1 by unfold wrE; rw [if_pos he, if_pos hz9])
      have d1 : decide ((65536 : Int) < (o : Int) + (s.size : Int)) = true := by rw [decide_eq_true_iff]; omega
      clear he hz9
      go_enter Tryz.func9, Tryz.ntmps9
      go_wp2_with fail
      (with_reducible refine HCH.out.mono ?_)
      rintro e w1 ⟨v, rfl, hm⟩
      have HB := Lib.hid hm.2
      obtain ⟨A5, c5, hv5, _⟩ := hm.ls enC_len
      subst hv5
      clear hm
      go_wp2
      go_ret2
      exact ⟨_, by rw [HE.out] <;> rfl, by rw [HE.out]; exact Mk.nil HB.out⟩
    · have HE := Lib.hid (show wrE D I o s = 0 by unfold wrE; rw [if_pos he, if_neg hz9])
      have d1 : decide ((65536 : Int) < (o : Int) + (s.size : Int)) = false := by rw [decide_eq_false_iff_not]; omega
      have ho9 : o ≤ 65536 := by omega
      clear he
      go_enter Tryz.func9, Tryz.ntmps9
      go_wp2_with fail
      (with_reducible refine HCH.out.mono ?_)
      rintro e' w1 ⟨v, rfl, hm⟩
      have HB := Lib.hid hm.2
      obtain ⟨A5, c5, hv5, _, _, hl⟩ := hm.ls enC_len
      simp only [if_true] at hv5 hl
      obtain ⟨m, hmm⟩ : ∃ m, (chs D I).length = m := ⟨_, rfl⟩
      rw [hmm] at hv5
      subst hv5
      have HRD := Lib.hid (written_any (chs D I) I hI1 hI o s (by omega) A5 m c5 w1.heap.size hmm.symm (by have := HCL.out; omega) HUP.out HSZ.out w1 (Nat.le_refl _) hl)
      clear hm hmm hl hz9
      go_wp2_with fail
      (with_reducible refine HRD.out.mono ?_)
      rintro e' w2 ⟨v2, rfl, hm2⟩
      have HM2 := Lib.hid (hm2.since HB.out)
      obtain ⟨A6, c6, hv6, _⟩ := hm2.ls Sc.enc_len
      subst hv6
      clear hm2
      go_wp2
      go_ret2
      exact ⟨_, by rw [HE.out] <;> rfl, by rw [HE.out, if_pos rfl]; exact HM2.out⟩
  · have HE := Lib.hid (show wrE D I o s = ec D I by unfold wrE; rw [if_neg he])
    have q0 := bne0 he
    obtain ⟨x, hx⟩ : ∃ x, ec D I = x := ⟨_, rfl⟩
    rw [hx] at HCH HE q0 he
    have HNE := Lib.hid he
    clear he hx
    go_enter Tryz.func9, Tryz.ntmps9
    go_wp2_with fail
    (with_reducible refine HCH.out.mono ?_)
    rintro e w1 ⟨v, rfl, hm⟩
    rw [if_neg HNE.out] at hm
    have HB := Lib.hid hm.2
    obtain ⟨A5, c5, hv5, _⟩ := hm.ls enC_len
    subst hv5
    clear hm
    go_wp2
    go_ret2
    exact ⟨_, by rw [HE.out] <;> rfl, by rw [HE.out, if_neg HNE.out]; exact Mk.nil HB.out⟩
set_option maxHeartbeats 1000000 in
theorem Cut_any (D : List Itm) (I z : Nat) (hI : I < 4294967296) (hz : z < 4294967296) (A : Option Addr) (n c B : Nat) (hn : n = D.length) (hc : n ≤ c) (hcm : c ≤ maxLen) (hlen : n ≤ 4398046511104) (w : World) (hB : B ≤ w.heap.size) (hD : Ls It.enc 2 w B A D) :
    Calls Tryz.prog 12 #[.slice A n c, .int .u32 I, .int .u32 z] w (ChPost w (rdE D I z) (ctL (chs D I) z)) := by
  have HCH := Lib.hid (chunksOf_any D I hI A n c B hn hc hcm hlen w hB hD)
  clear hD hB hn
  by_cases he : ec D I = 0
  · obtain ⟨hr, hI1⟩ := ec_zero he
    have HUP := Lib.hid (chs_up hr hI1 hI)
    have HSZ := Lib.hid (chs_sz hr hI1 hI)
    have HCL := Lib.hid (show (chs D I).length ≤ 512 from chs_few hr hI1 hI)
    rw [he] at HCH
    by_cases hz9 : 65536 < z
    · have HE := Lib.hid (show rdE D I z = 1 by unfold rdE; rw [if_pos he, if_pos hz9])
      have d1 : decide ((65536 : Int) < (z : Int)) = true := by rw [decide_eq_true_iff]; omega
      clear he hz9
      go_enter Tryz.func12, Tryz.ntmps12
      go_wp2_with fail
      (with_reducible refine HCH.out.mono ?_)
      rintro e w1 ⟨v, rfl, hm⟩
      have HB := Lib.hid hm.2
      obtain ⟨A5, c5, hv5, _⟩ := hm.ls enC_len
      subst hv5
      clear hm
      go_wp2
      go_ret2
      exact ⟨_, by rw [HE.out] <;> rfl, by rw [HE.out]; exact Mk.nil HB.out⟩
    · have HE := Lib.hid (show rdE D I z = 0 by unfold rdE; rw [if_pos he, if_neg hz9])
      have d1 : decide ((65536 : Int) < (z : Int)) = false := by rw [decide_eq_false_iff_not]; omega
      have ho9 : z ≤ 65536 := by omega
      clear he
      go_enter Tryz.func12, Tryz.ntmps12
      go_wp2_with fail
      (with_reducible refine HCH.out.mono ?_)
      rintro e' w1 ⟨v, rfl, hm⟩
      have HB := Lib.hid hm.2
      obtain ⟨A5, c5, hv5, _, _, hl⟩ := hm.ls enC_len
      simp only [if_true] at hv5 hl
      obtain ⟨m, hmm⟩ : ∃ m, (chs D I).length = m := ⟨_, rfl⟩
      rw [hmm] at hv5
      subst hv5
      have HRD := Lib.hid (cut_any (chs D I) z ho9 A5 m c5 w1.heap.size hmm.symm (by have := HCL.out; omega) HSZ.out w1 (Nat.le_refl _) hl)
      clear hm hmm hl hz9
      go_wp2_with fail
      (with_reducible refine HRD.out.mono ?_)
      rintro e' w2 ⟨v2, rfl, hm2⟩
      have HM2 := Lib.hid (hm2.since HB.out)
      obtain ⟨A6, c6, hv6, _⟩ := hm2.ls Sc.enc_len
      subst hv6
      clear hm2
      go_wp2
      go_ret2
      exact ⟨_, by rw [HE.out] <;> rfl, by rw [HE.out, if_pos rfl]; exact HM2.out⟩
  · have HE := Lib.hid (show rdE D I z = ec D I by unfold rdE; rw [if_neg he])
    have q0 := bne0 he
    obtain ⟨x, hx⟩ : ∃ x, ec D I = x := ⟨_, rfl⟩
    rw [hx] at HCH HE q0 he
    have HNE := Lib.hid he
    clear he hx
    go_enter Tryz.func12, Tryz.ntmps12
    go_wp2_with fail
    (with_reducible refine HCH.out.mono ?_)
    rintro e w1 ⟨v, rfl, hm⟩
    rw [if_neg HNE.out] at hm
    have HB := Lib.hid hm.2
    obtain ⟨A5, c5, hv5, _⟩ := hm.ls enC_len
    subst hv5
    clear hm
    go_wp2
    go_ret2
    exact ⟨_, by rw [HE.out] <;> rfl, by rw [HE.out, if_neg HNE.out]; exact Mk.nil HB.out⟩
end Go.Proofs.YtcnggidihkcndaaGreatDoor.Da
/- The example that data's laws begin with ('lives') answers true. -/
namespace Go.Proofs.YtcnggidihkcndaaGreatDoor.Da
set_option linter.unusedVariables false
set_option linter.unusedSimpArgs false
set_option maxRecDepth 100000
open Go.ChangeShapes Go.WideShapes Go.ChangeAt Go.RowKit
open Ar Rg
open It (Itm Ch MkI MkC rt rc app er apply_any)
open BigFrame
def W1 : List Ch := [nwC (fnd [] 2 0) 126 [97, 98], nwC (fnd [] 2 1) 0 [99]]
def sabc : ByteArray := { data := #[97, 98, 99] }
def sab : ByteArray := { data := #[97, 98] }
theorem live0 : eqH (nwC (fnd [] 2 0) 126 [97, 98]) (akC (fnd [] 2 0)) = false ∧ eqH (nwC (fnd [] 2 1) 0 [99]) (akC (fnd [] 2 1)) = false := by decide +kernel
theorem live1 : wrL (chs [] 2) 2 126 sabc.data.toList = W1 := by
  have h0 : chs [] 2 = [] := rfl
  rw [h0, wrL_go (c := fnd [] 2 0) (q := 126) (n := 2) (by decide) rfl rfl (by decide)]
  rw [show (List.take 2 sabc.data.toList) = [97, 98] from rfl, show (List.drop 2 sabc.data.toList) = [99] from rfl, live0.1]
  rw [wrL_go (c := fnd [] 2 1) (q := 0) (n := 1) (by decide) rfl rfl (by decide)]
  rw [show (List.take 1 ([99] : List UInt8)) = [99] from rfl, show (List.drop 1 ([99] : List UInt8)) = [] from rfl, live0.2, wrL_nil]
  rfl
theorem live2 : rc W1 = true := by decide +kernel
theorem live3 : rt (app [] W1) = true := It.rt_app (D := []) rfl live2
theorem live4 : rdV (app [] W1) 2 129 127 9 = { data := #[98, 99] } := by decide +kernel
theorem live5 : rdE (app [] W1) 2 129 = 0 ∧ rdE (app [] W1) 2 127 = 0 ∧ wrE [] 2 126 sabc = 0 ∧ wrE [] 2 65535 sab = 1 := by decide +kernel
theorem live6 : (ctL (chs (app [] W1) 2) 127).map (·.h) = [true, false] := by decide +kernel
theorem live7 : ∃ x y : Ch, ctL (chs (app [] W1) 2) 127 = [x, y] ∧ x.h = true ∧ y.h = false := by
  have h := live6
  generalize ctL (chs (app [] W1) 2) 127 = l at *
  rcases l with _ | ⟨x, _ | ⟨y, _ | ⟨z, t⟩⟩⟩
  · simp at h
  · simp at h
  · simp at h
    exact ⟨x, y, rfl, h.1, h.2⟩
  · simp at h
theorem live8 : (app [] W1).length ≤ 2 := by decide +kernel
set_option maxHeartbeats 1000000 in
theorem lives_true (w : World) : Calls Tryz.prog 8 #[] w fun e w' => e = .returned (.bool true) ∧ Below w.heap.size w w' := by
  have HW := Lib.hid (show ∀ w : World, Calls Tryz.prog 9 #[.slice none 0 0, .int .u32 2, .int .u32 126, .string { data := #[97, 98, 99] }] w (ChPost w 0 W1) from fun w => by
    have h := Write_any [] 2 126 (by omega) (by omega) sabc (by decide) none 0 0 0 rfl (Nat.le_refl _) (by decide) (by omega) w (Nat.zero_le _) Ls.nil
    rw [live1, live5.2.2.1] at h
    exact h)
  have HW2 := Lib.hid (show ∀ w : World, ∃ R, Calls Tryz.prog 9 #[.slice none 0 0, .int .u32 2, .int .u32 65535, .string { data := #[97, 98] }] w (ChPost w 1 R) from fun w => by
    have h := Write_any [] 2 65535 (by omega) (by omega) sab (by decide) none 0 0 0 rfl (Nat.le_refl _) (by decide) (by omega) w (Nat.zero_le _) Ls.nil
    rw [live5.2.2.2] at h
    exact ⟨_, h⟩)
  have HA := Lib.hid (fun w A c (h : Ls Sc.enc 3 w w.heap.size A W1) => apply_any [] W1 none A 0 0 2 c 0 w.heap.size rfl (Nat.le_refl _) (by decide) rfl (by omega) (by omega) w (Nat.zero_le _) (Nat.le_refl _) Ls.nil h)
  rw [live2] at HA
  obtain ⟨x, y, hct, hx, hy⟩ := live7
  have h8 := live8
  have HR := Lib.hid (show ∀ (w : World) (n : Nat) (hn : n = (app [] W1).length) (A : Option Addr) (c : Nat) (hc : n ≤ c) (hcm : c ≤ maxLen) (h : Ls It.enc 2 w w.heap.size A (app [] W1)), Calls Tryz.prog 11 #[.slice A n c, .int .u32 2, .int .u32 129, .int .u32 127, .int .u32 9] w fun e w' => e = .returned (.tuple #[.string { data := #[98, 99] }, .int .i64 0]) ∧ Below w.heap.size w w' from fun w n hn A c hc hcm h => by
    have h := Read_any (app [] W1) 2 129 127 9 (by omega) (by omega) (by omega) (by omega) A n c w.heap.size hn hc hcm (by omega) w (Nat.le_refl _) h
    rw [live4, live5.1] at h
    exact h)
  have HC := Lib.hid (show ∀ (w : World) (n : Nat) (hn : n = (app [] W1).length) (A : Option Addr) (c : Nat) (hc : n ≤ c) (hcm : c ≤ maxLen) (B : Nat) (hB : B ≤ w.heap.size) (h : Ls It.enc 2 w B A (app [] W1)), Calls Tryz.prog 12 #[.slice A n c, .int .u32 2, .int .u32 127] w (ChPost w 0 [x, y]) from fun w n hn A c hc hcm B hB h => by
    have h := Cut_any (app [] W1) 2 127 (by omega) (by omega) A n c B hn hc hcm (by omega) w hB h
    rw [live5.2.1, hct] at h
    exact h)
  clear hct h8
  go_enter Tryz.func8, Tryz.ntmps8
  go_wp2_with fail
  (with_reducible refine (HW.out _).mono ?_)
  rintro e w1 ⟨v, rfl, hm⟩
  simp only [if_true] at hm
  have B1 := Lib.hid hm.2
  obtain ⟨A1, c1, hv, _, _, hl1⟩ := hm.ls Sc.enc_len
  have hv : v = .slice A1 2 c1 := hv
  subst hv
  have L1 := Lib.hid hl1
  clear hm hl1 HW
  go_wp2_with fail
  (with_reducible refine (HA.out _ _ _ L1.out).mono ?_)
  rintro e w2 ⟨v, he, hm⟩
  have he' : e = .returned (.tuple #[v, .int .i64 0]) := he
  subst he'
  have hm2 : MkI w1 w2 v (app [] W1) := hm
  have B2 := Lib.hid (B1.out.trans (hm2.2.mono B1.out.size))
  obtain ⟨A2, c2, hv, hc2, hcm2, hl2⟩ := hm2.ls It.enc_len
  obtain ⟨n, hn⟩ : ∃ n, n = (app [] W1).length := ⟨_, rfl⟩
  rw [← hn] at hv hc2
  subst hv
  have L2 := Lib.hid hl2
  have HN := Lib.hid hn
  clear he hm hm2 hl2 HA L1 B1 hn
  go_wp2_with fail
  (with_reducible refine (HR.out _ _ HN.out _ _ hc2 hcm2 L2.out).mono ?_)
  rintro e w3 ⟨rfl, hb⟩
  have B3 := Lib.hid (B2.out.trans (hb.mono B2.out.size))
  have L3 := Lib.hid (L2.out.below hb)
  have S3 := Lib.hid (hb.size)
  clear hb HR B2 L2
  go_wp2_with fail
  (with_reducible refine (HC.out _ _ HN.out _ _ hc2 hcm2 _ S3.out L3.out).mono ?_)
  rintro e w4 ⟨v, rfl, hm⟩
  simp only [if_true] at hm
  have B4 := Lib.hid (B3.out.trans (hm.2.mono B3.out.size))
  obtain ⟨A4, c4, hv, _, _, hl4⟩ := hm.ls Sc.enc_len
  have hv : v = .slice A4 2 c4 := hv
  subst hv
  have L4 := Lib.hid hl4
  clear hm hl4 HC B3 L3 S3
  go_wp2_with fail
  obtain ⟨R9, HW3⟩ := HW2.out w4
  (with_reducible refine HW3.mono ?_)
  rintro e w5 ⟨v, rfl, hm⟩
  have hm5 : MkC w4 w5 v [] := by rwa [if_neg (by decide)] at hm
  have B5 := Lib.hid (B4.out.trans (hm5.2.mono B4.out.size))
  obtain ⟨A5, c5, hv, _⟩ := hm5.ls Sc.enc_len
  have hv : v = .slice A5 0 c5 := hv
  subst hv
  obtain ⟨b, o, hA, hb, hr⟩ := (L4.out.below hm5.2) 0 x rfl
  obtain ⟨b', o', hA', hb', hr'⟩ := (L4.out.below hm5.2) 1 y rfl
  subst hA
  obtain ⟨rfl, rfl⟩ : b = b' ∧ o = o' := by simpa using hA'
  have k1 : w5.cell? ⟨b, o + 1, none⟩ = some (.bool true) := by have := hr 1 _ rfl; rw [hx] at this; simpa using this
  have k2 : w5.cell? ⟨b, o + 3 + 1, none⟩ = some (.bool false) := by have := hr' 1 _ rfl; rw [hy] at this; simpa using this
  clear hm hm5 hr hr' hA' L4 HW2 HW3 B4 hx hy
  go_wp2
  go_ret
  exact ⟨rfl, B5.out⟩
end Go.Proofs.YtcnggidihkcndaaGreatDoor.Da
/- The walk of DataParts: bytes read in two parts are what they are read at once. -/
namespace Go.Proofs.YtcnggidihkcndaaGreatDoor.Da
set_option linter.unusedVariables false
set_option linter.unusedSimpArgs false
set_option maxRecDepth 100000
open Go.ChangeShapes Go.WideShapes Go.ChangeAt Go.RowKit
open Ar Rg
open It (Itm Ch MkI MkC rt rc app er apply_any)
open BigFrame
theorem rdC_two (cs : List Ck) (a m e : Nat) (h1 : a ≤ m) (h2 : m ≤ e) : rdC cs a m ++ rdC cs m e = rdC cs a e := by
  apply List.ext_getElem?
  intro j
  by_cases hj : j < m - a
  · rw [List.getElem?_append_left (by rw [rdC_len]; exact hj), rdC_get _ _ _ _ hj, rdC_get _ _ _ _ (by omega)]
  · rw [List.getElem?_append_right (by rw [rdC_len]; omega), rdC_len]
    by_cases hj2 : j < e - a
    · rw [rdC_get _ _ _ _ (by omega), rdC_get _ _ _ _ hj2, show m + (j - (m - a)) = a + j by omega]
    · rw [List.getElem?_eq_none (by rw [rdC_len]; omega), List.getElem?_eq_none (by rw [rdC_len]; omega)]
theorem rdC_none (cs : List Ck) (a e : Nat) (h : e ≤ a) : rdC cs a e = [] := List.eq_nil_of_length_eq_zero (by rw [rdC_len]; omega)
theorem ba_app (x y : List UInt8) : (⟨x.toArray⟩ : ByteArray) ++ ⟨y.toArray⟩ = ⟨(x ++ y).toArray⟩ := by
  apply ByteArray.ext
  rw [ByteArray.data_append]
  simp
theorem rd_parts (D : List Itm) (I z o a b : Nat) : rdV D I z o a ++ rdV D I z (o + a) b = rdV D I z o (a + b) := by
  unfold rdV
  by_cases h : rdE D I z = 0
  · rw [if_pos h, if_pos h, if_pos h, ba_app]
    congr 2
    by_cases hz : z ≤ o + a
    · rw [Nat.min_eq_right hz, rdC_none _ (o + a) _ (by omega), List.append_nil, Nat.min_eq_right (by omega)]
    · rw [Nat.min_eq_left (by omega), rdC_two _ _ _ _ (by omega) (by omega), show o + a + b = o + (a + b) by omega]
  · rw [if_neg h, if_neg h, if_neg h]
    rfl
theorem rdV_size (D : List Itm) (I z o n : Nat) : (rdV D I z o n).size ≤ 65536 := by
  unfold rdV
  by_cases h : rdE D I z = 0
  · rw [if_pos h]
    have hz : z ≤ 65536 := by
      unfold rdE at h
      split at h
      · split at h
        · cases h
        · omega
      · rename_i h2; exact absurd h h2
    show (rdC (chs D I) o (min (o + n) z)).toArray.size ≤ _
    rw [List.size_toArray, rdC_len]
    omega
  · rw [if_neg h]; exact Nat.zero_le _
set_option maxHeartbeats 1000000 in
theorem dataParts_walk (D : List Itm) (I z o a b : Nat) (hI : I < 4294967296) (hz : z < 4294967296) (ho : o < 4294967296) (ha : a < 4294967296) (hb : b < 4294967296) (A : Option Addr) (n c : Nat) (hn : n = D.length) (hc : n ≤ c) (hcm : c ≤ maxLen) (hlen : n ≤ 4398046511104) (w : World) (hD : Ls It.enc 2 w w.heap.size A D) :
    Calls Tryz.prog 5 #[.slice A n c, .int .u32 I, .int .u32 z, .int .u32 o, .int .u32 a, .int .u32 b] w fun e w' => e = .returned (.bool true) ∧ Below w.heap.size w w' := by
  have HL := Lib.hid (fun w => lives_true w)
  have HR := Lib.hid (fun (w1 : World) (hb : Below w.heap.size w w1) (p q : Nat) (hp : p < 4294967296) (hq : q < 4294967296) => Read_any D I z p q hI hz hp hq A n c w.heap.size hn hc hcm hlen w1 hb.size (hD.below hb))
  clear hn hc hcm hlen hD
  by_cases hbig : 1048576 < a ∨ 1048576 < b ∨ 1048576 < o
  · obtain ⟨p1, hp1⟩ : ∃ p, decide ((1048576 : Int) < (a : Int)) = p := ⟨_, rfl⟩
    obtain ⟨p2, hp2⟩ : ∃ p, decide ((1048576 : Int) < (b : Int)) = p := ⟨_, rfl⟩
    obtain ⟨p3, hp3⟩ : ∃ p, decide ((1048576 : Int) < (o : Int)) = p := ⟨_, rfl⟩
    have hor : p1 = true ∨ p2 = true ∨ p3 = true := by
      rcases hbig with h | h | h
      · left; rw [← hp1, decide_eq_true_iff]; omega
      · right; left; rw [← hp2, decide_eq_true_iff]; omega
      · right; right; rw [← hp3, decide_eq_true_iff]; omega
    clear hbig
    cases p1
    · cases p2
      · have h3 : p3 = true := by simpa using hor
        subst h3
        clear hor
        go_enter Tryz.func5, Tryz.ntmps5
        go_wp2_with fail
        (with_reducible refine (HL.out _).mono ?_)
        rintro e w1 ⟨rfl, hb1⟩
        go_wp2
        go_ret
        exact ⟨rfl, hb1⟩
      · clear hor
        go_enter Tryz.func5, Tryz.ntmps5
        go_wp2_with fail
        (with_reducible refine (HL.out _).mono ?_)
        rintro e w1 ⟨rfl, hb1⟩
        go_wp2
        go_ret
        exact ⟨rfl, hb1⟩
    · clear hor
      go_enter Tryz.func5, Tryz.ntmps5
      go_wp2_with fail
      (with_reducible refine (HL.out _).mono ?_)
      rintro e w1 ⟨rfl, hb1⟩
      go_wp2
      go_ret
      exact ⟨rfl, hb1⟩
  · have d1 : decide ((1048576 : Int) < (a : Int)) = false := by rw [decide_eq_false_iff_not]; omega
    have d2 : decide ((1048576 : Int) < (b : Int)) = false := by rw [decide_eq_false_iff_not]; omega
    have d3 : decide ((1048576 : Int) < (o : Int)) = false := by rw [decide_eq_false_iff_not]; omega
    obtain ⟨oa, hoa⟩ : ∃ x, o + a = x := ⟨_, rfl⟩
    obtain ⟨ab, hab⟩ : ∃ x, a + b = x := ⟨_, rfl⟩
    have HP := Lib.hid (rd_parts D I z o a b)
    rw [hoa, hab] at HP
    have i1 : IntKind.u32.wrap ((o : Int) + (a : Int)) = (oa : Int) := by simp [IntKind.wrap, IntKind.bits, IntKind.signed]; omega
    have i2 : IntKind.u32.wrap ((a : Int) + (b : Int)) = (ab : Int) := by simp [IntKind.wrap, IntKind.bits, IntKind.signed]; omega
    have i3 : (o : Int) + (a : Int) = (oa : Int) := by omega
    have i4 : (a : Int) + (b : Int) = (ab : Int) := by omega
    have ho9 : oa < 4294967296 := by omega
    have hab9 : ab < 4294967296 := by omega
    have HX := Lib.hid (rdV_size D I z o a)
    have HY := Lib.hid (rdV_size D I z oa b)
    have HR1 := Lib.hid (fun w1 h => HR.out w1 h o a ho ha)
    have HR2 := Lib.hid (fun w1 h => HR.out w1 h oa b ho9 hb)
    have HR3 := Lib.hid (fun w1 h => HR.out w1 h o ab ho hab9)
    generalize rdV D I z o a = x at *
    generalize rdV D I z oa b = y at *
    generalize rdV D I z o ab = v at *
    generalize rdE D I z = E at *
    clear hbig hoa hab HR
    go_enter Tryz.func5, Tryz.ntmps5
    go_wp2_with fail
    (with_reducible refine (HL.out _).mono ?_)
    rintro e w1 ⟨rfl, hb1⟩
    have B1 := Lib.hid hb1
    clear hb1
    go_wp2_with fail
    (with_reducible refine (HR1.out _ B1.out).mono ?_)
    rintro e w2 ⟨rfl, hb2⟩
    have B2 := Lib.hid (B1.out.trans (hb2.mono B1.out.size))
    clear hb2 HR1 B1
    go_wp2_with fail
    (with_reducible refine (HR2.out _ B2.out).mono ?_)
    rintro e w3 ⟨rfl, hb3⟩
    have B3 := Lib.hid (B2.out.trans (hb3.mono B2.out.size))
    clear hb3 HR2 B2
    go_wp2_with fail
    (with_reducible refine (HR3.out _ B3.out).mono ?_)
    rintro e w4 ⟨rfl, hb4⟩
    have B4 := Lib.hid (B3.out.trans (hb4.mono B3.out.size))
    clear hb4 HR3 B3 i1 i2 i3 i4
    have hx := HX.out
    have hy := HY.out
    have hxy : x ++ y = v := HP.out
    go_wp2
    go_ret
    exact ⟨rfl, B4.out⟩
end Go.Proofs.YtcnggidihkcndaaGreatDoor.Da
