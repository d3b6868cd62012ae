/- Two nodes held against each other: equality of kids and of volumes as structs; contracts of the document's Same (items, volumes, nodes). -/
import Derived.Test.YtlchjohaacbkpaaGreatDoorNdC
import Derived.Test.YtlchjohaacbkpaaGreatDoorNdE
import Derived.ChangeKeysEq
namespace Go.Proofs.YtlchjohaacbkpaaGreatDoor.Nd
set_option linter.unusedVariables false
set_option linter.unusedSimpArgs false
open Go.ChangeShapes Go.WideShapes Go.ChangeAt Go.RowKit
open Ar Rg
open BigFrame
open Pk (u8s u8s_length)
open It (str_le below_drewN)
section
variable {α : Type}
def eqL (eq : α → α → Bool) : List α → List α → Bool
  | [], [] => true
  | a :: A, b :: B => eq a b && eqL eq A B
  | _, _ => false
theorem eqL_iff {eq : α → α → Bool} (h : ∀ a b, eq a b = true ↔ a = b) : ∀ {A B : List α}, eqL eq A B = true ↔ A = B
  | [], [] => by simp [eqL]
  | [], _ :: _ => by simp [eqL]
  | _ :: _, [] => by simp [eqL]
  | a :: A, b :: B => by rw [eqL, Bool.and_eq_true, h, eqL_iff h, List.cons.injEq]
theorem eqL_no {eq : α → α → Bool} (h : ∀ a b, eq a b = true ↔ a = b) {A B : List α} (hne : A ≠ B) : eqL eq A B = false := by
  rw [Bool.eq_false_iff]; exact fun e => hne ((eqL_iff h).1 e)
theorem take_same {D E : List α} {i : Nat} {x : α} (h : D.take i = E.take i) (hx : D[i]? = some x) (hy : E[i]? = some x) : D.take (i + 1) = E.take (i + 1) := by
  rw [List.take_add_one, List.take_add_one, h, hx, hy]
end
theorem bytes_eq {a b : ByteArray} : a.data.toList = b.data.toList ↔ a = b := ⟨fun h => ByteArray.ext (Array.toList_inj.1 h), fun h => by rw [h]⟩
theorem str_same (a b : ByteArray) : (a.toList == b.toList) = decide (a = b) := by
  rw [ByteArray.toList_eq, ByteArray.toList_eq, Bool.eq_iff_iff, beq_iff_eq, decide_eq_true_iff]; exact bytes_eq
def eqI (a b : It.Itm) : Bool := decide (a.k = b.k) && decide (a.v = b.v)
def eqK (a b : Kd) : Bool := decide (a.k = b.k) && (decide (a.n = b.n) && decide (a.hs = b.hs))
def eqV (a b : Vo) : Bool := decide (a.nm = b.nm) && (decide (a.kd = b.kd) && (decide (a.fr = b.fr) && (decide (a.bn = b.bn) && (decide (a.rt = b.rt) && decide (a.hs = b.hs)))))
theorem eqI_iff (a b : It.Itm) : eqI a b = true ↔ a = b := by
  obtain ⟨a1, a2⟩ := a; obtain ⟨b1, b2⟩ := b
  simp [eqI]
theorem eqK_iff (a b : Kd) : eqK a b = true ↔ a = b := by
  obtain ⟨a1, a2, a3⟩ := a; obtain ⟨b1, b2, b3⟩ := b
  simp [eqK]
theorem eqV_iff (a b : Vo) : eqV a b = true ↔ a = b := by
  obtain ⟨a1, a2, a3, a4, a5, a6⟩ := a; obtain ⟨b1, b2, b3, b4, b5, b6⟩ := b
  simp [eqV]
/-- two nodes are one -/
def eqN (a b : Nd) : Bool := decide (a.kd = b.kd) && (eqL eqI a.I b.I && (decide (a.K.length = b.K.length) && (eqL eqV a.V b.V && eqL eqK a.K b.K)))
theorem eqN_iff (a b : Nd) : eqN a b = true ↔ a = b := by
  obtain ⟨a1, a2, a3, a4⟩ := a; obtain ⟨b1, b2, b3, b4⟩ := b
  unfold eqN
  simp only [Bool.and_eq_true, eqL_iff eqI_iff, eqL_iff eqK_iff, eqL_iff eqV_iff, decide_eq_true_iff, Nd.mk.injEq]
  constructor
  · rintro ⟨h1, h2, h3, h4, h5⟩; exact ⟨h1, h2, h5, h4⟩
  · rintro ⟨h1, h2, h3, h4⟩; exact ⟨h1, h2, by rw [h3], h4, h3⟩
/-! ## '==' of two structs -/
theorem plain9 : Tryz.prog.plainKey 9 = true := by kernel_rfl
theorem plain32 : Tryz.prog.plainKey 39 = true := by kernel_rfl
theorem plain64 : Tryz.prog.plainKey 41 = true := by kernel_rfl
theorem plainVK : Tryz.prog.plainKey 84 = true := by kernel_rfl
theorem infoArr : ∃ i, Tryz.prog.info? 42 = some i := Option.isSome_iff_exists.mp (by kernel_rfl)
theorem cellsArr : Tryz.prog.cellsOf 42 = 32 := by kernel_rfl
theorem part_arr (xs : Array Value) (off : Nat) (w : World) : (part 42 xs off).run Tryz.prog w = .ok (.agg (xs.extract off (off + 32))) w := by
  obtain ⟨i, hi⟩ := infoArr
  simp [part, isAgg, run_underlying Tryz.underlying42, run_sizeOf w hi, cellsArr]
theorem eq_arr_at {l m : List UInt8} (hl : l.length = 32) (hm : m.length = 32) (d : Nat) (w : World) : (Op.equalIn (d + 2) 42 (.agg (u8s l).toArray) (.agg (u8s m).toArray)).run Tryz.prog w = .ok (decide (l = m)) w := by
  obtain ⟨i, hi⟩ := info8u
  rw [run_equalIn_array (P := Tryz.prog) w (d + 1) _ _ Tryz.underlying42 hi, cells8]
  rw [eqItems_any d l m w _ (fun j hj => by
    have hj2 : j < 32 := by simpa using hj
    exact ⟨by omega, by omega⟩)]
  refine congrArg (fun b => Result.ok b w) ?_
  rw [Bool.eq_iff_iff, List.all_eq_true, decide_eq_true_iff]
  constructor
  · intro h
    apply List.ext_getElem? 
    intro j
    by_cases hj : j < 32
    · simpa using h j (by simpa using hj)
    · rw [List.getElem?_eq_none (by omega), List.getElem?_eq_none (by omega)]
  · rintro rfl j _; simp
theorem extr (pre : List Value) (l : List UInt8) (h : l.length = 32) : (pre ++ u8s l).toArray.extract pre.length (pre.length + 32) = (u8s l).toArray := by
  apply Array.toList_inj.1
  rw [Array.toList_extract, List.extract_eq_take_drop]
  rw [show pre.length + 32 - pre.length = 32 by omega]
  simp only [List.drop_left]
  exact List.take_of_length_le (by rw [u8s_length, h]; exact Nat.le_refl _)
theorem int_same (a b : Nat) : ((a : Int) == (b : Int)) = decide (a = b) := by rw [Bool.eq_iff_iff, beq_iff_eq, decide_eq_true_iff]; omega
theorem kidFields : (Tryz.prog.fieldsOf 83).toList.map (fun f => (f.name, f.type, f.offset)) = [("Key", 9, 0), ("Num", 39, 1), ("Hash", 42, 2)] := by kernel_rfl
theorem volFields : (Tryz.prog.fieldsOf 86).toList.map (fun f => (f.name, f.type, f.offset)) = [("Name", 9, 0), ("Kind", 84, 1), ("From", 9, 2), ("Born", 41, 3), ("Root", 39, 4), ("Hash", 42, 5)] := by kernel_rfl
theorem eqF_cons {P : Program} {d off : Nat} {xs ys : Array Value} {f : Field} {fs : List Field} {w : World} {t : TypeId} {nm : String} {a b : Value} {q : Bool} (hn : (f.name, f.type, f.offset) = (nm, t, off)) (hne : nm ≠ "_") (ha : (part t xs off).run P w = .ok a w) (hb : (part t ys off).run P w = .ok b w) (hq : (Op.equalIn d t a b).run P w = .ok q w) :
    (Op.eqFields d xs ys (f :: fs)).run P w = if q then (Op.eqFields d xs ys fs).run P w else .ok false w := by
  simp only [Prod.mk.injEq] at hn
  obtain ⟨rfl, rfl, rfl⟩ := hn
  simp only [Op.eqFields, if_pos hne, Sem.run_bind, ha, hb, hq, Result.andThen_ok]
  cases q <;> simp
theorem eqF_nil {P : Program} {d : Nat} {xs ys : Array Value} {w : World} : (Op.eqFields d xs ys []).run P w = .ok true w := by simp [Op.eqFields]
theorem if_ok (q r : Bool) (w : World) (x : Result Bool) (h : x = .ok r w) : (if q then x else .ok false w) = .ok (q && r) w := by cases q <;> simp [h]
set_option maxRecDepth 100000 in
theorem eq_kid (x y : Kd) (hx : x.hs.length = 32) (hy : y.hs.length = 32) (w : World) : (Op.equalIn 10000 83 (.agg (ecK x).toArray) (.agg (ecK y).toArray)).run Tryz.prog w = .ok (eqK x y) w := by
  rw [ecK_of hx, ecK_of hy, run_equalIn_struct (P := Tryz.prog) w 9999 83 _ _ (by kernel_rfl) (by kernel_rfl)]
  have hf := kidFields
  generalize (Tryz.prog.fieldsOf 83).toList = fs at *
  have hlf : fs.length = 3 := by have := congrArg List.length hf; simpa using this
  match fs, hlf, hf with
  | [f0, f1, f2], _, hf =>
    simp only [List.map_cons, List.map_nil, List.cons.injEq, and_true] at hf
    obtain ⟨h0, h1, h2⟩ := hf
    rw [eqF_cons (q := decide (x.k = y.k)) h0 (by decide) (run_part_plain (P := Tryz.prog) w plain9 (v := .string x.k) rfl) (run_part_plain (P := Tryz.prog) w plain9 (v := .string y.k) rfl) (by rw [run_equalIn_string (P := Tryz.prog) w 9998 9 x.k y.k Tryz.underlying9, str_same])]
    refine if_ok _ _ _ _ ?_
    rw [eqF_cons (q := decide (x.n = y.n)) h1 (by decide) (run_part_plain (P := Tryz.prog) w plain32 (v := .int .u32 (x.n : Int)) rfl) (run_part_plain (P := Tryz.prog) w plain32 (v := .int .u32 (y.n : Int)) rfl) (by rw [run_equalIn_int (P := Tryz.prog) w 9998 39 .u32 .u32 (x.n : Int) (y.n : Int) Tryz.underlying39, int_same])]
    refine if_ok _ _ _ _ ?_
    have e1 := part_arr (encK x).toArray 2 w
    have e2 := part_arr (encK y).toArray 2 w
    rw [show (encK x).toArray.extract 2 (2 + 32) = (u8s x.hs).toArray from extr ([.string x.k, .int .u32 (x.n : Int)]) x.hs hx] at e1
    rw [show (encK y).toArray.extract 2 (2 + 32) = (u8s y.hs).toArray from extr ([.string y.k, .int .u32 (y.n : Int)]) y.hs hy] at e2
    rw [eqF_cons (q := decide (x.hs = y.hs)) h2 (by decide) e1 e2 (eq_arr_at hx hy 9997 w), eqF_nil]
    cases decide (x.hs = y.hs) <;> rfl
set_option maxRecDepth 100000 in
theorem eq_vol (x y : Vo) (hx : x.hs.length = 32) (hy : y.hs.length = 32) (w : World) : (Op.equalIn 10000 86 (.agg (ecV x).toArray) (.agg (ecV y).toArray)).run Tryz.prog w = .ok (eqV x y) w := by
  rw [ecV_of hx, ecV_of hy, run_equalIn_struct (P := Tryz.prog) w 9999 86 _ _ (by kernel_rfl) (by kernel_rfl)]
  have hf := volFields
  generalize (Tryz.prog.fieldsOf 86).toList = fs at *
  have hlf : fs.length = 6 := by have := congrArg List.length hf; simpa using this
  match fs, hlf, hf with
  | [f0, f1, f2, f3, f4, f5], _, hf =>
    simp only [List.map_cons, List.map_nil, List.cons.injEq, and_true] at hf
    obtain ⟨h0, h1, h2, h3, h4, h5⟩ := hf
    rw [eqF_cons (q := decide (x.nm = y.nm)) h0 (by decide) (run_part_plain (P := Tryz.prog) w plain9 (v := .string x.nm) rfl) (run_part_plain (P := Tryz.prog) w plain9 (v := .string y.nm) rfl) (by rw [run_equalIn_string (P := Tryz.prog) w 9998 9 x.nm y.nm Tryz.underlying9, str_same])]
    refine if_ok _ _ _ _ ?_
    rw [eqF_cons (q := decide (x.kd = y.kd)) h1 (by decide) (run_part_plain (P := Tryz.prog) w plainVK (v := .int .u8 (x.kd : Int)) rfl) (run_part_plain (P := Tryz.prog) w plainVK (v := .int .u8 (y.kd : Int)) rfl) (by rw [run_equalIn_int (P := Tryz.prog) w 9998 84 .u8 .u8 (x.kd : Int) (y.kd : Int) Tryz.underlying84, int_same])]
    refine if_ok _ _ _ _ ?_
    rw [eqF_cons (q := decide (x.fr = y.fr)) h2 (by decide) (run_part_plain (P := Tryz.prog) w plain9 (v := .string x.fr) rfl) (run_part_plain (P := Tryz.prog) w plain9 (v := .string y.fr) rfl) (by rw [run_equalIn_string (P := Tryz.prog) w 9998 9 x.fr y.fr Tryz.underlying9, str_same])]
    refine if_ok _ _ _ _ ?_
    rw [eqF_cons (q := decide (x.bn = y.bn)) h3 (by decide) (run_part_plain (P := Tryz.prog) w plain64 (v := .int .u64 (x.bn : Int)) rfl) (run_part_plain (P := Tryz.prog) w plain64 (v := .int .u64 (y.bn : Int)) rfl) (by rw [run_equalIn_int (P := Tryz.prog) w 9998 41 .u64 .u64 (x.bn : Int) (y.bn : Int) Tryz.underlying41, int_same])]
    refine if_ok _ _ _ _ ?_
    rw [eqF_cons (q := decide (x.rt = y.rt)) h4 (by decide) (run_part_plain (P := Tryz.prog) w plain32 (v := .int .u32 (x.rt : Int)) rfl) (run_part_plain (P := Tryz.prog) w plain32 (v := .int .u32 (y.rt : Int)) rfl) (by rw [run_equalIn_int (P := Tryz.prog) w 9998 39 .u32 .u32 (x.rt : Int) (y.rt : Int) Tryz.underlying39, int_same])]
    refine if_ok _ _ _ _ ?_
    have e1 := part_arr (encV x).toArray 5 w
    have e2 := part_arr (encV y).toArray 5 w
    rw [show (encV x).toArray.extract 5 (5 + 32) = (u8s x.hs).toArray from extr ([.string x.nm, .int .u8 (x.kd : Int), .string x.fr, .int .u64 (x.bn : Int), .int .u32 (x.rt : Int)]) x.hs hx] at e1
    rw [show (encV y).toArray.extract 5 (5 + 32) = (u8s y.hs).toArray from extr ([.string y.nm, .int .u8 (y.kd : Int), .string y.fr, .int .u64 (y.bn : Int), .int .u32 (y.rt : Int)]) y.hs hy] at e2
    rw [eqF_cons (q := decide (x.hs = y.hs)) h5 (by decide) e1 e2 (eq_arr_at hx hy 9997 w), eqF_nil]
    cases decide (x.hs = y.hs) <;> rfl
end Go.Proofs.YtlchjohaacbkpaaGreatDoor.Nd
