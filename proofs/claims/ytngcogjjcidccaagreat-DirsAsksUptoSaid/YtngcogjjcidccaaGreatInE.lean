/- '==' of inodes and of keys; the laws' own question of package inode. -/
import Derived.Test.YtngcogjjcidccaaGreatKyE
import Derived.ChangeKeysEq
namespace Go.Proofs.YtngcogjjcidccaaGreat.Ino
set_option linter.unusedVariables false
set_option linter.unusedSimpArgs false
open Go.ChangeShapes Go.WideShapes Go.ChangeAt Go.RowKit
open BigFrame
open Rg
open Pk (be num be_length num_be num_lt bs bs_size nB nE tN tR tE xB_size)
open Ph (has tl tl_len nb)
theorem plainS : Tryz.prog.plainKey 9 = true := by kernel_rfl
theorem plain32 : Tryz.prog.plainKey 24 = true := by kernel_rfl
theorem plain16 : Tryz.prog.plainKey 29 = true := by kernel_rfl
theorem plainFK : Tryz.prog.plainKey 28 = true := by kernel_rfl
theorem plainKK : Tryz.prog.plainKey 73 = true := by kernel_rfl
theorem int_same (a b : Nat) : ((a : Int) == (b : Int)) = decide (a = b) := by rw [Bool.eq_iff_iff, beq_iff_eq, decide_eq_true_iff]; omega
theorem bytes_eq {a b : ByteArray} : a.data.toList = b.data.toList ↔ a = b := ⟨fun h => ByteArray.ext (Array.toList_inj.1 h), fun h => by rw [h]⟩
theorem str_same (a b : ByteArray) : (a.toList == b.toList) = decide (a = b) := by
  rw [ByteArray.toList_eq, ByteArray.toList_eq, Bool.eq_iff_iff, beq_iff_eq, decide_eq_true_iff]; exact bytes_eq
theorem eqF_cons {P : Program} {d off : Nat} {xs ys : Array Value} {f : Field} {fs : List Field} {w : World} {t : TypeId} {nm : String} {a b : Value} {q : Bool} (hn : (f.name, f.type, f.offset) = (nm, t, off)) (hne : nm ≠ "_") (ha : (part t xs off).run P w = .ok a w) (hb : (part t ys off).run P w = .ok b w) (hq : (Op.equalIn d t a b).run P w = .ok q w) :
    (Op.eqFields d xs ys (f :: fs)).run P w = if q then (Op.eqFields d xs ys fs).run P w else .ok false w := by
  simp only [Prod.mk.injEq] at hn
  obtain ⟨rfl, rfl, rfl⟩ := hn
  simp only [Op.eqFields, if_pos hne, Sem.run_bind, ha, hb, hq, Result.andThen_ok]
  cases q <;> simp
theorem eqF_nil {P : Program} {d : Nat} {xs ys : Array Value} {w : World} : (Op.eqFields d xs ys []).run P w = .ok true w := by simp [Op.eqFields]
theorem if_ok (q r : Bool) (w : World) (x : Result Bool) (h : x = .ok r w) : (if q then x else .ok false w) = .ok (q && r) w := by cases q <;> simp [h]
theorem inFields : (Tryz.prog.fieldsOf 31).toList.map (fun f => (f.name, f.type, f.offset)) = [("Kind", 28, 0), ("Mode", 29, 1), ("Links", 24, 2), ("Size", 24, 3), ("Target", 9, 4)] := by kernel_rfl
theorem kyFields : (Tryz.prog.fieldsOf 75).toList.map (fun f => (f.name, f.type, f.offset)) = [("Kind", 73, 0), ("Ino", 24, 1), ("Name", 9, 2), ("Chunk", 24, 3)] := by kernel_rfl
def eqI (x y : In) : Bool := decide (x.K = y.K) && (decide (x.M = y.M) && (decide (x.L = y.L) && (decide (x.S = y.S) && decide (x.T = y.T))))
def eqK (x y : Ky) : Bool := decide (x.K = y.K) && (decide (x.I = y.I) && (decide (x.N = y.N) && decide (x.C = y.C)))
theorem eqI_iff (a b : In) : eqI a b = true ↔ a = b := by
  obtain ⟨a1, a2, a3, a4, a5⟩ := a; obtain ⟨b1, b2, b3, b4, b5⟩ := b
  simp [eqI]
theorem eqK_iff (a b : Ky) : eqK a b = true ↔ a = b := by
  obtain ⟨a1, a2, a3, a4⟩ := a; obtain ⟨b1, b2, b3, b4⟩ := b
  simp [eqK]
set_option maxRecDepth 100000 in
theorem eq_inode (x y : In) (w : World) : (Op.equalIn 10000 31 (vI x) (vI y)).run Tryz.prog w = .ok (eqI x y) w := by
  unfold vI
  rw [run_equalIn_struct (P := Tryz.prog) w 9999 31 _ _ (by kernel_rfl) (by kernel_rfl)]
  have hf := inFields
  generalize (Tryz.prog.fieldsOf 31).toList = fs at *
  have hlf : fs.length = 5 := by have := congrArg List.length hf; simpa using this
  match fs, hlf, hf with
  | [f0, f1, f2, f3, f4], _, hf =>
    simp only [List.map_cons, List.map_nil, List.cons.injEq, and_true] at hf
    obtain ⟨h0, h1, h2, h3, h4⟩ := hf
    rw [eqF_cons (q := decide (x.K = y.K)) h0 (by decide) (run_part_plain (P := Tryz.prog) w plainFK (v := .int .u8 (x.K : Int)) rfl) (run_part_plain (P := Tryz.prog) w plainFK (v := .int .u8 (y.K : Int)) rfl) (by rw [run_equalIn_int (P := Tryz.prog) w 9998 28 .u8 .u8 (x.K : Int) (y.K : Int) Tryz.underlying28, int_same])]
    refine if_ok _ _ _ _ ?_
    rw [eqF_cons (q := decide (x.M = y.M)) h1 (by decide) (run_part_plain (P := Tryz.prog) w plain16 (v := .int .u16 (x.M : Int)) rfl) (run_part_plain (P := Tryz.prog) w plain16 (v := .int .u16 (y.M : Int)) rfl) (by rw [run_equalIn_int (P := Tryz.prog) w 9998 29 .u16 .u16 (x.M : Int) (y.M : Int) Tryz.underlying29, int_same])]
    refine if_ok _ _ _ _ ?_
    rw [eqF_cons (q := decide (x.L = y.L)) h2 (by decide) (run_part_plain (P := Tryz.prog) w plain32 (v := .int .u32 (x.L : Int)) rfl) (run_part_plain (P := Tryz.prog) w plain32 (v := .int .u32 (y.L : Int)) rfl) (by rw [run_equalIn_int (P := Tryz.prog) w 9998 24 .u32 .u32 (x.L : Int) (y.L : Int) Tryz.underlying24, int_same])]
    refine if_ok _ _ _ _ ?_
    rw [eqF_cons (q := decide (x.S = y.S)) h3 (by decide) (run_part_plain (P := Tryz.prog) w plain32 (v := .int .u32 (x.S : Int)) rfl) (run_part_plain (P := Tryz.prog) w plain32 (v := .int .u32 (y.S : Int)) rfl) (by rw [run_equalIn_int (P := Tryz.prog) w 9998 24 .u32 .u32 (x.S : Int) (y.S : Int) Tryz.underlying24, int_same])]
    refine if_ok _ _ _ _ ?_
    rw [eqF_cons (q := decide (x.T = y.T)) h4 (by decide) (run_part_plain (P := Tryz.prog) w plainS (v := .string x.T) rfl) (run_part_plain (P := Tryz.prog) w plainS (v := .string y.T) rfl) (by rw [run_equalIn_string (P := Tryz.prog) w 9998 9 x.T y.T Tryz.underlying9, str_same]), eqF_nil]
    cases decide (x.T = y.T) <;> rfl
set_option maxRecDepth 100000 in
theorem eq_key (x y : Ky) (w : World) : (Op.equalIn 10000 75 (vK x) (vK y)).run Tryz.prog w = .ok (eqK x y) w := by
  unfold vK
  rw [run_equalIn_struct (P := Tryz.prog) w 9999 75 _ _ (by kernel_rfl) (by kernel_rfl)]
  have hf := kyFields
  generalize (Tryz.prog.fieldsOf 75).toList = fs at *
  have hlf : fs.length = 4 := by have := congrArg List.length hf; simpa using this
  match fs, hlf, hf with
  | [f0, f1, f2, f3], _, hf =>
    simp only [List.map_cons, List.map_nil, List.cons.injEq, and_true] at hf
    obtain ⟨h0, h1, h2, h3⟩ := hf
    rw [eqF_cons (q := decide (x.K = y.K)) h0 (by decide) (run_part_plain (P := Tryz.prog) w plainKK (v := .int .u8 (x.K : Int)) rfl) (run_part_plain (P := Tryz.prog) w plainKK (v := .int .u8 (y.K : Int)) rfl) (by rw [run_equalIn_int (P := Tryz.prog) w 9998 73 .u8 .u8 (x.K : Int) (y.K : Int) Tryz.underlying73, int_same])]
    refine if_ok _ _ _ _ ?_
    rw [eqF_cons (q := decide (x.I = y.I)) h1 (by decide) (run_part_plain (P := Tryz.prog) w plain32 (v := .int .u32 (x.I : Int)) rfl) (run_part_plain (P := Tryz.prog) w plain32 (v := .int .u32 (y.I : Int)) rfl) (by rw [run_equalIn_int (P := Tryz.prog) w 9998 24 .u32 .u32 (x.I : Int) (y.I : Int) Tryz.underlying24, int_same])]
    refine if_ok _ _ _ _ ?_
    rw [eqF_cons (q := decide (x.N = y.N)) h2 (by decide) (run_part_plain (P := Tryz.prog) w plainS (v := .string x.N) rfl) (run_part_plain (P := Tryz.prog) w plainS (v := .string y.N) rfl) (by rw [run_equalIn_string (P := Tryz.prog) w 9998 9 x.N y.N Tryz.underlying9, str_same])]
    refine if_ok _ _ _ _ ?_
    rw [eqF_cons (q := decide (x.C = y.C)) h3 (by decide) (run_part_plain (P := Tryz.prog) w plain32 (v := .int .u32 (x.C : Int)) rfl) (run_part_plain (P := Tryz.prog) w plain32 (v := .int .u32 (y.C : Int)) rfl) (by rw [run_equalIn_int (P := Tryz.prog) w 9998 24 .u32 .u32 (x.C : Int) (y.C : Int) Tryz.underlying24, int_same]), eqF_nil]
    cases decide (x.C = y.C) <;> rfl
theorem guardI : Tryz.prog.eqGuardType Tryz.prog.depth 31 = false := by kernel_rfl
theorem guardK : Tryz.prog.eqGuardType Tryz.prog.depth 75 = false := by kernel_rfl
/-- a whole struct's load, its row known -/
theorem row_run {P : Program} {ev : Operand → Value} {o : Oper} {w : World} (ty : TypeId) {x : Operand} (ho : o.op = .load ty x) (b : Nat) (hx : ev x = .pointer (some ⟨b, 0, none⟩)) (cs : Array Value) (t : TypeId) (fr : Nat × Nat) (d : TypeDesc) (hg : w.heap[b]? = some (.cells cs t fr))
    (hu : P.underlying ty = some d) (hd : (match d with | .struct _ | .array _ _ => true | _ => false) = true) (hi : (P.info? ty).map (·.size) = some cs.size) : (execOp ev o).run P w = .ok (.value (.agg cs)) w := by
  unfold execOp
  simp only [ho, hx, Instr.loadAt, Instr.sureAddr, Sem.run_bind, Sem.run_pure, Result.andThen_ok, run_loadVar_row w b t ty cs fr d hg hu hd hi]
end Go.Proofs.YtngcogjjcidccaaGreat.Ino
