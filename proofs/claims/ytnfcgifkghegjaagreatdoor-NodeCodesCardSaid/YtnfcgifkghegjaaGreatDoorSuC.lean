/- Contracts of package super: what is taken of any data. -/
import Derived.Test.YtnfcgifkghegjaaGreatDoorSuB
import Derived.Lib.BufferWrite
namespace Go.Proofs.YtnfcgifkghegjaaGreatDoor.Sp
set_option linter.unusedVariables false
set_option linter.unusedSimpArgs false
open Go.ChangeShapes Go.WideShapes Go.ChangeAt Go.RowKit
open Nd Rg
open BigFrame
open Pk (be num be_length num_lt tN tR tE take_any u8s u8s_length)
/-- the first bytes of a text that is longer than the cells -/
theorem run_copy_row_long {P : Program} (w : World) (dT sT ty elem : TypeId) (g o dLen dCap : Nat) (s : ByteArray) (cur : Array Value) (t : TypeId)
    (hu : P.underlying dT = some (.slice elem)) (hs : (P.info? elem).map (·.size) = some 1) (hg : w.heap[g]? = some (.cells cur t (0, 0))) (hge : dLen ≤ s.size) (hfit : o + dLen ≤ cur.size) :
    (Builtin.copy_ #[dT, sT] ty #[.slice (some ⟨g, o, none⟩) dLen dCap, .string s]).run P w =
      .ok (goInt dLen) (w.setRow g (cur.toList.take o ++ Lib.byteCells (s.data.toList.take dLen) ++ cur.toList.drop (o + dLen)).toArray) := by
  have hsl : s.data.toList.length = s.size := by rw [Array.length_toList]; rfl
  have hlen : (Lib.byteCells (s.data.toList.take dLen)).length = dLen := by rw [Lib.byteCells_length, List.length_take, hsl]; omega
  have hst := run_storeCells_at P g o t (Lib.byteCells (s.data.toList.take dLen)) 0 cur w hg (by rw [hlen]; simpa using hfit) (Lib.byteCells_one _)
  have hmin : Nat.min s.size dLen = dLen := Nat.min_eq_right hge
  have htk : List.take dLen (List.map (fun b : UInt8 => Value.int IntKind.u8 (b.toNat : Int)) s.data.toList) = Lib.byteCells (s.data.toList.take dLen) := by
    unfold Lib.byteCells
    rw [List.map_take]
  rw [hlen] at hst
  simp only [Nat.add_zero] at hst
  cases hq : P.info? elem with
  | none => simp [hq] at hs
  | some i =>
    simp [Builtin.copy_, run_underlying hu, Builtin.lenOf, Builtin.firstCells, sizeOf, typeInfo, hq, hmin]
    rw [htk, hst]
    simp [Result.andThen]
theorem wpList_copy_long {P : Program} {ops : Array Oper} {rest : List Oper} {o : Oper} {a : Act} {w : World} {Q : Exit → Act → World → Prop}
    (hgd : o.guard = none) (d x : Operand) (dT sT : TypeId) (hop : o.op = Op.call { callee := Callee.builtin Builtin.copy, args := #[d, x], argTypes := #[dT, sT] })
    (elem : TypeId) (hu : P.underlying dT = some (.slice elem)) (hs : (P.info? elem).map (·.size) = some 1) (g off dLen dCap : Nat) (hd : a.eval d = .slice (some ⟨g, off, none⟩) dLen dCap) (s : ByteArray) (hx : a.eval x = .string s)
    (cur : Array Value) (t : TypeId) (hg : w.heap[g]? = some (.cells cur t (0, 0))) (hge : dLen ≤ s.size) (hfit : off + dLen ≤ cur.size) (cs : Array Value) (hcs : (cur.toList.take off ++ Lib.byteCells (s.data.toList.take dLen) ++ cur.toList.drop (off + dLen)).toArray = cs)
    (hK : wpList P ops Q rest (a.put o.dst (goInt dLen)) (w.setRow g cs)) :
    wpList P ops Q (o :: rest) a w := by
  subst hcs
  refine wpList_plain hgd fun K hK' => ?_
  have hrun := run_copy_row_long (P := P) w dT sT o.type elem g off dLen dCap s cur t hu hs hg hge hfit
  unfold Oper.wp
  simp [execOp, hop, resolve, invoke, builtin, hd, hx, hrun, Result.andThen]
  exact hK' _ _ (by simpa using hK)
theorem tN_at {s : ByteArray} {k : Nat} (h1 : 1 ≤ k) (h2 : k ≤ 8) (h : k ≤ s.size) : tN s (k : Int) = (num (s.data.toList.take k) : Nat) ∧ (tR s (k : Int)).data.toList = s.data.toList.drop k := by
  have e : (1 : Int) ≤ (k : Int) ∧ (k : Int) ≤ 8 ∧ (k : Int).toNat ≤ s.size := ⟨by omega, by omega, by rw [Int.toNat_natCast]; exact h⟩
  unfold tN tR
  rw [if_pos e, if_pos e, Int.toNat_natCast]
  refine ⟨rfl, ?_⟩
  rw [ByteArray.data_extract, Array.toList_extract, List.extract_eq_take_drop, List.take_of_length_le]
  rw [List.length_drop, Array.length_toList]
  exact Nat.le_refl _
theorem szl (s : ByteArray) : s.data.toList.length = s.size := by rw [Array.length_toList]; rfl
theorem num_take (l : List UInt8) (k : Nat) (h : k ≤ l.length) : num (l.take k) < 256 ^ k := by
  have := num_lt (l.take k)
  rwa [List.length_take, Nat.min_eq_left h] at this
theorem tk_list {L : List UInt8} (h : 48 ≤ L.length) : (cS.tk (L, false)).1 = ⟨num (L.take 4), num ((L.drop 4).take 8), num ((L.drop 12).take 4), (L.drop 16).take 32⟩ := by
  have e1 : tkNum 4 (L, false) = (num (L.take 4), (L.drop 4, false)) := by unfold tkNum; rw [if_pos (by show 4 ≤ L.length; omega)]
  have e2 : tkNum 8 (L.drop 4, false) = (num ((L.drop 4).take 8), (L.drop 12, false)) := by unfold tkNum; rw [if_pos (by show 8 ≤ (L.drop 4).length; rw [List.length_drop]; omega)]; simp only [List.drop_drop]
  have e3 : tkNum 4 (L.drop 12, false) = (num ((L.drop 12).take 4), (L.drop 16, false)) := by unfold tkNum; rw [if_pos (by show 4 ≤ (L.drop 12).length; rw [List.length_drop]; omega)]; simp only [List.drop_drop]
  have e4 : (tkHash (L.drop 16, false)).1 = (L.drop 16).take 32 := by
    have hb : tkBytes 32 (L.drop 16, false) = ((L.drop 16).take 32, (L.drop 48, false)) := by unfold tkBytes; rw [if_neg (by show ¬ (L.drop 16).length < 32; rw [List.length_drop]; omega)]; simp only [List.drop_drop]
    unfold tkHash
    rw [hb]
    dsimp only
    rw [List.length_take, List.length_drop, Nat.min_eq_left (by omega), Nat.sub_self, List.replicate_zero, List.append_nil]
  have key : (cS.tk (L, false)).1 = ⟨(tkNum 4 (L, false)).1, (tkNum 8 (tkNum 4 (L, false)).2).1, (tkNum 4 (tkNum 8 (tkNum 4 (L, false)).2).2).1, (tkHash (tkNum 4 (tkNum 8 (tkNum 4 (L, false)).2).2).2).1⟩ := rfl
  rw [key, e1]
  dsimp only
  rw [e2]
  dsimp only
  rw [e3]
  dsimp only
  rw [e4]
/-- what is taken, part by part -/
theorem tk_parts (d : ByteArray) : ∃ (r0 r1 r2 r3 : ByteArray) (n1 n2 n3 : Nat), (d ++ bs (List.replicate 512 0)).extract 6 (d ++ bs (List.replicate 512 0)).size = r0 ∧ r0.size ≤ d.size + 512 ∧
    tN r0 ((4 : Nat) : Int) = n1 ∧ tR r0 ((4 : Nat) : Int) = r1 ∧ r1.size ≤ d.size + 512 ∧ tN r1 ((8 : Nat) : Int) = n2 ∧ tR r1 ((8 : Nat) : Int) = r2 ∧ r2.size ≤ d.size + 512 ∧ tN r2 ((4 : Nat) : Int) = n3 ∧ tR r2 ((4 : Nat) : Int) = r3 ∧
    32 ≤ r3.size ∧ n1 < 4294967296 ∧ n2 < 18446744073709551616 ∧ n3 < 4294967296 ∧ tkS d = ⟨n1, n2, n3, r3.data.toList.take 32⟩ := by
  have hz : (d ++ bs (List.replicate 512 0)).size = d.size + 512 := by rw [ByteArray.size_append, bs_size, List.length_replicate]
  obtain ⟨r0, h0⟩ : ∃ r, (d ++ bs (List.replicate 512 0)).extract 6 (d ++ bs (List.replicate 512 0)).size = r := ⟨_, rfl⟩
  have l0 : r0.data.toList = (d.data.toList ++ List.replicate 512 0).drop 6 := by
    rw [← h0, ByteArray.data_extract, Array.toList_extract, List.extract_eq_take_drop, List.take_of_length_le]
    · rw [ByteArray.data_append, Array.toList_append]; rfl
    · rw [List.length_drop, Array.length_toList]; exact Nat.le_refl _
  have z0 : r0.size = d.size + 506 := by
    rw [← szl, l0, List.length_drop, List.length_append, List.length_replicate, szl]; omega
  have t1 := tN_at (s := r0) (k := 4) (by omega) (by omega) (by omega)
  have z1 : (tR r0 ((4 : Nat) : Int)).size = d.size + 502 := by rw [← szl, t1.2, List.length_drop, szl]; omega
  have t2 := tN_at (s := tR r0 ((4 : Nat) : Int)) (k := 8) (by omega) (by omega) (by omega)
  have z2 : (tR (tR r0 ((4 : Nat) : Int)) ((8 : Nat) : Int)).size = d.size + 494 := by rw [← szl, t2.2, List.length_drop, szl]; omega
  have t3 := tN_at (s := tR (tR r0 ((4 : Nat) : Int)) ((8 : Nat) : Int)) (k := 4) (by omega) (by omega) (by omega)
  have z3 : (tR (tR (tR r0 ((4 : Nat) : Int)) ((8 : Nat) : Int)) ((4 : Nat) : Int)).size = d.size + 490 := by rw [← szl, t3.2, List.length_drop, szl]; omega
  have hl : r0.data.toList.length = d.size + 506 := by rw [szl]; exact z0
  refine ⟨r0, _, _, _, _, _, _, h0, by omega, t1.1, rfl, by omega, t2.1, rfl, by omega, t3.1, rfl, by omega, ?_, ?_, ?_, ?_⟩
  · have := num_take r0.data.toList 4 (by omega); omega
  · have := num_take (tR r0 ((4 : Nat) : Int)).data.toList 8 (by rw [szl]; omega); omega
  · have := num_take (tR (tR r0 ((4 : Nat) : Int)) ((8 : Nat) : Int)).data.toList 4 (by rw [szl]; omega); omega
  · unfold tkS
    rw [← l0, tk_list (by omega), t3.2, t2.2, t1.2]
    simp only [List.drop_drop]
end Go.Proofs.YtnfcgifkghegjaaGreatDoor.Sp
