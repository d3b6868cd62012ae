/- Contracts of package item's Check and of the document's key and Check. -/
import Derived.Test.YtnfcgifkghegjaaGreatDoorNdE
import Derived.Test.YtnfcgifkghegjaaGreatDoorJtC
import Derived.Test.YtnfcgifkghegjaaGreatDoorNdC
import Derived.Test.YtnfcgifkghegjaaGreatDoorRgS
import Derived.Test.YtnfcgifkghegjaaGreatDoorGa
import Derived.ChangeKeysEq
import Derived.BigQuiet
namespace Go.Proofs.YtnfcgifkghegjaaGreatDoor.It
set_option linter.unusedVariables false
open Go.ChangeShapes Go.WideShapes Go.ChangeAt Go.RowKit
open Ar Rg St
theorem refKey_any (k : ByteArray) (w : World) :
    Calls Tryz.prog 55 #[.string k] w fun e w' => e = .returned (.bool (okKey k)) ∧ w = w' := by
  by_cases h0 : k.size = 0
  · have e0 : okKey k = false := by simp [okKey, h0]
    have hk : k = { data := #[] } := by
      obtain ⟨d⟩ := k
      congr
      exact Array.eq_empty_of_size_eq_zero h0
    rw [e0]
    subst hk
    go_enter Tryz.func55, Tryz.ntmps55
    go_wp2_with fail
    go_ret
    exact ⟨rfl, rfl⟩
  · have hk : k.toList.isEmpty = false := by
      rw [Bool.eq_false_iff]
      intro h
      have h2 : k.toList = [] := List.isEmpty_iff.1 h
      rw [ByteArray.toList_eq] at h2
      have h3 : k.data.size = 0 := by rw [← Array.length_toList, h2]; rfl
      exact h0 h3
    have e0 : okKey k = decide ((k.size : Int) ≤ 48) := by
      unfold okKey
      rw [decide_eq_true (show k.size ≠ 0 from h0), Bool.true_and]
      exact decide_eq_decide.2 (by omega)
    rw [e0]
    go_enter Tryz.func55, Tryz.ntmps55
    go_wp2_with fail
    go_ret
    exact ⟨rfl, rfl⟩
theorem refKey_at (k : ByteArray) (w : World) : Calls Tryz.prog 55 #[.string k] w fun e w' => e = .returned (.bool (okKey k)) ∧ w' = w := (refKey_any k w).mono fun e w' h => ⟨h.1, h.2.symm⟩
end Go.Proofs.YtnfcgifkghegjaaGreatDoor.It
/- Contract of the document's Check. -/
namespace Go.Proofs.YtnfcgifkghegjaaGreatDoor.It
set_option linter.unusedVariables false
open Go.ChangeShapes Go.WideShapes Go.ChangeAt Go.RowKit
open Ar Rg St
open BigFrame
set_option maxRecDepth 100000 in
set_option maxHeartbeats 1000000 in
theorem refCheck_any (D : List Itm) (A : Option Addr) (n cap B : Nat) (hn : n = D.length) (hm : n ≤ 281474976710656) (w : World) (hB : B ≤ w.heap.size) (hD : Ls enc 2 w B A D) :
    Calls Tryz.prog 28 #[.slice A n cap] w fun e w' => e = .returned (errF (rt D)) ∧ Below w.heap.size w w' := by
  have HN := Lib.hid hn
  have HD := Lib.hid hD
  clear hn hD
  go_enter Tryz.func28, Tryz.ntmps28
  go_wp2_with fail
  go_loopw [7] (fun v wr => ∃ i : Nat, i ≤ n ∧ v = .int .i64 i ∧ Hid (RtAt D i) ∧ Hid (Below w.heap.size w wr)) (fun v _ => n - (intOf v).toNat)
  case atStart => exact ⟨0, Nat.zero_le _, by go_num, RtAt.zero D, Below.refl _ _⟩
  case round =>
    obtain ⟨i, hi, rfl, hrt, hbel⟩ := hrel
    by_cases hlt : i < n
    · obtain ⟨x, hx⟩ : ∃ x, D[i]? = some x := ⟨_, List.getElem?_eq_getElem (by rw [← HN.out]; exact hlt)⟩
      have hL := HD.out.below ((Hid.out hbel).mono hB)
      obtain ⟨b, o, hAe, hb, hr⟩ := hL i x hx
      have hbs : b < wr.heap.size := Nat.lt_of_lt_of_le hb (Nat.le_trans hB (Hid.out hbel).size)
      have hc0 : wr.cell? ⟨b, o + i * 2, none⟩ = some (.string x.k) := hr 0 _ rfl
      have hc1 : wr.cell? ⟨b, o + i * 2 + 1, none⟩ = some (.string x.v) := hr 1 _ rfl
      have HL := Lib.hid hL
      clear hL hr
      subst hAe
      have HBN := Lib.hid (show Below w.heap.size w (wr.alloc (.cells #[.string x.k, .string x.v] 61)) from (Hid.out hbel).alloc (Hid.out hbel).size _)
      have hcx : (wr.alloc (.cells #[.string x.k, .string x.v] 61)).cell? ⟨wr.heap.size, 0, none⟩ = some (.string x.k) := by simp
      have hcv : (wr.alloc (.cells #[.string x.k, .string x.v] 61)).cell? ⟨wr.heap.size, 1, none⟩ = some (.string x.v) := by simp
      have hqc := refKey_at x.k
      go_wp2_with fail
      by_cases hok : okI x = true
      · have hq1 : okKey x.k = true := by simp [okI] at hok; exact hok.1
        have hv : x.v.size ≤ 160 := by simp [okI] at hok; exact hok.2
        have hv1 : decide ((160 : Int) < (x.v.size : Int)) = false := by rw [decide_eq_false_iff_not]; omega
        rw [hq1] at hqc
        have HQC := Lib.hid hqc
        clear hqc hq1 hv
        by_cases hi0 : i = 0
        · subst hi0
          have HRT := Lib.hid ((Hid.out hrt).first hx hok)
          clear hrt hx hi hok
          generalize wr.alloc _ = W1 at *
          go_big_quiet ((go_at_call 55; exact Calls.quiet_of_same (HQC.out _)))
          have HB2 := Lib.hid (below_drewN HBN.out nq)
          clear HBN hbel
          generalize World.drewN _ _ = W2 at *
          go_wp2
          exact ⟨⟨1, by omega, by go_num, HRT.out, HB2.out⟩, by simp [intOf] <;> omega⟩
        · obtain ⟨k, hk⟩ : ∃ k, i = k + 1 := ⟨i - 1, by omega⟩
          have hk1 : (i : Int) - 1 = (k : Int) := by omega
          have hk2 : decide ((0 : Int) < (i : Int)) = true := by rw [decide_eq_true_iff]; omega
          have hk3 : (k : Int) < (n : Int) := by omega
          obtain ⟨y, hy⟩ : ∃ y, D[k]? = some y := ⟨_, List.getElem?_eq_getElem (by rw [← HN.out]; omega)⟩
          obtain ⟨b2, o2, hAe, hb2, hr⟩ := HL.out k y hy
          cases hAe
          have hcy : (wr.alloc (.cells #[.string x.k, .string x.v] 61)).cell? ⟨b, o + k * 2, none⟩ = some (.string y.k) := by
            rw [World.cell?_alloc_lt _ _ _ hbs]
            exact hr 0 _ rfl
          subst hk
          clear hr
          by_cases hl : By.bl (key y) (key x) = true
          · have hl1 : Op.bytesLess y.k.toList x.k.toList = true := by rw [ByteArray.toList_eq, ByteArray.toList_eq]; exact hl
            have HRT := Lib.hid ((Hid.out hrt).more hy hx hok hl)
            clear hrt hx hy hl hok
            generalize wr.alloc _ = W1 at *
            go_big_quiet ((go_at_call 55; exact Calls.quiet_of_same (HQC.out _)))
            have HB2 := Lib.hid (below_drewN HBN.out nq)
            clear HBN hbel
            generalize World.drewN _ _ = W2 at *
            go_wp2
            exact ⟨⟨k + 2, by omega, by go_num, HRT.out, HB2.out⟩, by simp [intOf] <;> omega⟩
          · have hl0 : By.bl (key y) (key x) = false := by simpa using hl
            have hl1 : Op.bytesLess y.k.toList x.k.toList = false := by rw [ByteArray.toList_eq, ByteArray.toList_eq]; exact hl0
            have HRT := Lib.hid ((Hid.out hrt).down hy hx hl0)
            clear hrt hx hy hl hl0 hok
            generalize wr.alloc _ = W1 at *
            go_big_quiet ((go_at_call 55; exact Calls.quiet_of_same (HQC.out _)))
            have HB2 := Lib.hid (below_drewN HBN.out nq)
            clear HBN hbel
            generalize World.drewN _ _ = W2 at *
            go_wp2
            go_ret
            exact ⟨by rw [HRT.out]; rfl, HB2.out⟩
      · have hok1 : okI x = false := by simpa using hok
        have HF := Lib.hid ((Hid.out hrt).bad hx hok1)
        by_cases hq1 : okKey x.k = true
        · have hv : ¬ x.v.size ≤ 160 := by
            intro h
            rw [okI, hq1, decide_eq_true h] at hok1
            cases hok1
          have hv1 : decide ((160 : Int) < (x.v.size : Int)) = true := by rw [decide_eq_true_iff]; omega
          rw [hq1] at hqc
          have HQC := Lib.hid hqc
          clear hqc hq1 hv hok hok1 hrt hx
          generalize wr.alloc _ = W1 at *
          go_big_quiet ((go_at_call 55; exact Calls.quiet_of_same (HQC.out _)))
          have HB2 := Lib.hid (below_drewN HBN.out nq)
          clear HBN hbel
          generalize World.drewN _ _ = W2 at *
          go_wp2
          go_ret
          exact ⟨by rw [HF.out]; rfl, HB2.out⟩
        · have hq1 : okKey x.k = false := by simpa using hq1
          rw [hq1] at hqc
          have HQC := Lib.hid hqc
          clear hqc hq1 hok hok1 hrt hx
          generalize wr.alloc _ = W1 at *
          go_big_quiet ((go_at_call 55; exact Calls.quiet_of_same (HQC.out _)))
          have HB2 := Lib.hid (below_drewN HBN.out nq)
          clear HBN hbel
          generalize World.drewN _ _ = W2 at *
          go_wp2
          go_ret
          exact ⟨by rw [HF.out]; rfl, HB2.out⟩
    · have HF := Lib.hid ((Hid.out hrt).last (by rw [← HN.out]; omega))
      go_wp2
      go_ret
      exact ⟨by rw [HF.out]; rfl, Hid.out hbel⟩
end Go.Proofs.YtnfcgifkghegjaaGreatDoor.It
/- Two nodes held against each other: equality of kids and of volumes as structs; contracts of the document's Same (items, volumes, nodes). -/
namespace Go.Proofs.YtnfcgifkghegjaaGreatDoor.Nd
set_option linter.unusedVariables false
set_option linter.unusedSimpArgs false
open Go.ChangeShapes Go.WideShapes Go.ChangeAt Go.RowKit
open Ar Rg
open BigFrame
open Pk (u8s u8s_length)
open It (str_le below_drewN)
section
variable {α : Type}
def eqL (eq : α → α → Bool) : List α → List α → Bool
  | [], [] => true
  | a :: A, b :: B => eq a b && eqL eq A B
  | _, _ => false
theorem eqL_iff {eq : α → α → Bool} (h : ∀ a b, eq a b = true ↔ a = b) : ∀ {A B : List α}, eqL eq A B = true ↔ A = B
  | [], [] => by simp [eqL]
  | [], _ :: _ => by simp [eqL]
  | _ :: _, [] => by simp [eqL]
  | a :: A, b :: B => by rw [eqL, Bool.and_eq_true, h, eqL_iff h, List.cons.injEq]
theorem eqL_no {eq : α → α → Bool} (h : ∀ a b, eq a b = true ↔ a = b) {A B : List α} (hne : A ≠ B) : eqL eq A B = false := by
  rw [Bool.eq_false_iff]; exact fun e => hne ((eqL_iff h).1 e)
theorem take_same {D E : List α} {i : Nat} {x : α} (h : D.take i = E.take i) (hx : D[i]? = some x) (hy : E[i]? = some x) : D.take (i + 1) = E.take (i + 1) := by
  rw [List.take_add_one, List.take_add_one, h, hx, hy]
end
theorem bytes_eq {a b : ByteArray} : a.data.toList = b.data.toList ↔ a = b := ⟨fun h => ByteArray.ext (Array.toList_inj.1 h), fun h => by rw [h]⟩
theorem str_same (a b : ByteArray) : (a.toList == b.toList) = decide (a = b) := by
  rw [ByteArray.toList_eq, ByteArray.toList_eq, Bool.eq_iff_iff, beq_iff_eq, decide_eq_true_iff]; exact bytes_eq
def eqI (a b : It.Itm) : Bool := decide (a.k = b.k) && decide (a.v = b.v)
def eqK (a b : Kd) : Bool := decide (a.k = b.k) && (decide (a.n = b.n) && decide (a.hs = b.hs))
def eqV (a b : Vo) : Bool := decide (a.nm = b.nm) && (decide (a.kd = b.kd) && (decide (a.fr = b.fr) && (decide (a.bn = b.bn) && (decide (a.rt = b.rt) && decide (a.hs = b.hs)))))
theorem eqI_iff (a b : It.Itm) : eqI a b = true ↔ a = b := by
  obtain ⟨a1, a2⟩ := a; obtain ⟨b1, b2⟩ := b
  simp [eqI]
theorem eqK_iff (a b : Kd) : eqK a b = true ↔ a = b := by
  obtain ⟨a1, a2, a3⟩ := a; obtain ⟨b1, b2, b3⟩ := b
  simp [eqK]
theorem eqV_iff (a b : Vo) : eqV a b = true ↔ a = b := by
  obtain ⟨a1, a2, a3, a4, a5, a6⟩ := a; obtain ⟨b1, b2, b3, b4, b5, b6⟩ := b
  simp [eqV]
/-- two nodes are one -/
def eqN (a b : Nd) : Bool := decide (a.kd = b.kd) && (eqL eqI a.I b.I && (decide (a.K.length = b.K.length) && (eqL eqV a.V b.V && eqL eqK a.K b.K)))
theorem eqN_iff (a b : Nd) : eqN a b = true ↔ a = b := by
  obtain ⟨a1, a2, a3, a4⟩ := a; obtain ⟨b1, b2, b3, b4⟩ := b
  unfold eqN
  simp only [Bool.and_eq_true, eqL_iff eqI_iff, eqL_iff eqK_iff, eqL_iff eqV_iff, decide_eq_true_iff, Nd.mk.injEq]
  constructor
  · rintro ⟨h1, h2, h3, h4, h5⟩; exact ⟨h1, h2, h5, h4⟩
  · rintro ⟨h1, h2, h3, h4⟩; exact ⟨h1, h2, by rw [h3], h4, h3⟩
/-! ## '==' of two structs -/
theorem plain9 : Tryz.prog.plainKey 9 = true := by kernel_rfl
theorem plain32 : Tryz.prog.plainKey 39 = true := by kernel_rfl
theorem plain64 : Tryz.prog.plainKey 57 = true := by kernel_rfl
theorem plainVK : Tryz.prog.plainKey 56 = true := by kernel_rfl
theorem infoArr : ∃ i, Tryz.prog.info? 53 = some i := Option.isSome_iff_exists.mp (by kernel_rfl)
theorem cellsArr : Tryz.prog.cellsOf 53 = 32 := by kernel_rfl
theorem part_arr (xs : Array Value) (off : Nat) (w : World) : (part 53 xs off).run Tryz.prog w = .ok (.agg (xs.extract off (off + 32))) w := by
  obtain ⟨i, hi⟩ := infoArr
  simp [part, isAgg, run_underlying Tryz.underlying53, run_sizeOf w hi, cellsArr]
theorem eq_arr_at {l m : List UInt8} (hl : l.length = 32) (hm : m.length = 32) (d : Nat) (w : World) : (Op.equalIn (d + 2) 53 (.agg (u8s l).toArray) (.agg (u8s m).toArray)).run Tryz.prog w = .ok (decide (l = m)) w := by
  obtain ⟨i, hi⟩ := info8u
  rw [run_equalIn_array (P := Tryz.prog) w (d + 1) _ _ Tryz.underlying53 hi, cells8]
  rw [eqItems_any d l m w _ (fun j hj => by
    have hj2 : j < 32 := by simpa using hj
    exact ⟨by omega, by omega⟩)]
  refine congrArg (fun b => Result.ok b w) ?_
  rw [Bool.eq_iff_iff, List.all_eq_true, decide_eq_true_iff]
  constructor
  · intro h
    apply List.ext_getElem? 
    intro j
    by_cases hj : j < 32
    · simpa using h j (by simpa using hj)
    · rw [List.getElem?_eq_none (by omega), List.getElem?_eq_none (by omega)]
  · rintro rfl j _; simp
theorem extr (pre : List Value) (l : List UInt8) (h : l.length = 32) : (pre ++ u8s l).toArray.extract pre.length (pre.length + 32) = (u8s l).toArray := by
  apply Array.toList_inj.1
  rw [Array.toList_extract, List.extract_eq_take_drop]
  rw [show pre.length + 32 - pre.length = 32 by omega]
  simp only [List.drop_left]
  exact List.take_of_length_le (by rw [u8s_length, h]; exact Nat.le_refl _)
theorem int_same (a b : Nat) : ((a : Int) == (b : Int)) = decide (a = b) := by rw [Bool.eq_iff_iff, beq_iff_eq, decide_eq_true_iff]; omega
theorem kidFields : (Tryz.prog.fieldsOf 55).toList.map (fun f => (f.name, f.type, f.offset)) = [("Key", 9, 0), ("Num", 39, 1), ("Hash", 53, 2)] := by kernel_rfl
theorem volFields : (Tryz.prog.fieldsOf 59).toList.map (fun f => (f.name, f.type, f.offset)) = [("Name", 9, 0), ("Kind", 56, 1), ("From", 9, 2), ("Born", 57, 3), ("Root", 39, 4), ("Hash", 53, 5)] := by kernel_rfl
theorem eqF_cons {P : Program} {d off : Nat} {xs ys : Array Value} {f : Field} {fs : List Field} {w : World} {t : TypeId} {nm : String} {a b : Value} {q : Bool} (hn : (f.name, f.type, f.offset) = (nm, t, off)) (hne : nm ≠ "_") (ha : (part t xs off).run P w = .ok a w) (hb : (part t ys off).run P w = .ok b w) (hq : (Op.equalIn d t a b).run P w = .ok q w) :
    (Op.eqFields d xs ys (f :: fs)).run P w = if q then (Op.eqFields d xs ys fs).run P w else .ok false w := by
  simp only [Prod.mk.injEq] at hn
  obtain ⟨rfl, rfl, rfl⟩ := hn
  simp only [Op.eqFields, if_pos hne, Sem.run_bind, ha, hb, hq, Result.andThen_ok]
  cases q <;> simp
theorem eqF_nil {P : Program} {d : Nat} {xs ys : Array Value} {w : World} : (Op.eqFields d xs ys []).run P w = .ok true w := by simp [Op.eqFields]
theorem if_ok (q r : Bool) (w : World) (x : Result Bool) (h : x = .ok r w) : (if q then x else .ok false w) = .ok (q && r) w := by cases q <;> simp [h]
set_option maxRecDepth 100000 in
theorem eq_kid (x y : Kd) (hx : x.hs.length = 32) (hy : y.hs.length = 32) (w : World) : (Op.equalIn 10000 55 (.agg (ecK x).toArray) (.agg (ecK y).toArray)).run Tryz.prog w = .ok (eqK x y) w := by
  rw [ecK_of hx, ecK_of hy, run_equalIn_struct (P := Tryz.prog) w 9999 55 _ _ (by kernel_rfl) (by kernel_rfl)]
  have hf := kidFields
  generalize (Tryz.prog.fieldsOf 55).toList = fs at *
  have hlf : fs.length = 3 := by have := congrArg List.length hf; simpa using this
  match fs, hlf, hf with
  | [f0, f1, f2], _, hf =>
    simp only [List.map_cons, List.map_nil, List.cons.injEq, and_true] at hf
    obtain ⟨h0, h1, h2⟩ := hf
    rw [eqF_cons (q := decide (x.k = y.k)) h0 (by decide) (run_part_plain (P := Tryz.prog) w plain9 (v := .string x.k) rfl) (run_part_plain (P := Tryz.prog) w plain9 (v := .string y.k) rfl) (by rw [run_equalIn_string (P := Tryz.prog) w 9998 9 x.k y.k Tryz.underlying9, str_same])]
    refine if_ok _ _ _ _ ?_
    rw [eqF_cons (q := decide (x.n = y.n)) h1 (by decide) (run_part_plain (P := Tryz.prog) w plain32 (v := .int .u32 (x.n : Int)) rfl) (run_part_plain (P := Tryz.prog) w plain32 (v := .int .u32 (y.n : Int)) rfl) (by rw [run_equalIn_int (P := Tryz.prog) w 9998 39 .u32 .u32 (x.n : Int) (y.n : Int) Tryz.underlying39, int_same])]
    refine if_ok _ _ _ _ ?_
    have e1 := part_arr (encK x).toArray 2 w
    have e2 := part_arr (encK y).toArray 2 w
    rw [show (encK x).toArray.extract 2 (2 + 32) = (u8s x.hs).toArray from extr ([.string x.k, .int .u32 (x.n : Int)]) x.hs hx] at e1
    rw [show (encK y).toArray.extract 2 (2 + 32) = (u8s y.hs).toArray from extr ([.string y.k, .int .u32 (y.n : Int)]) y.hs hy] at e2
    rw [eqF_cons (q := decide (x.hs = y.hs)) h2 (by decide) e1 e2 (eq_arr_at hx hy 9997 w), eqF_nil]
    cases decide (x.hs = y.hs) <;> rfl
set_option maxRecDepth 100000 in
theorem eq_vol (x y : Vo) (hx : x.hs.length = 32) (hy : y.hs.length = 32) (w : World) : (Op.equalIn 10000 59 (.agg (ecV x).toArray) (.agg (ecV y).toArray)).run Tryz.prog w = .ok (eqV x y) w := by
  rw [ecV_of hx, ecV_of hy, run_equalIn_struct (P := Tryz.prog) w 9999 59 _ _ (by kernel_rfl) (by kernel_rfl)]
  have hf := volFields
  generalize (Tryz.prog.fieldsOf 59).toList = fs at *
  have hlf : fs.length = 6 := by have := congrArg List.length hf; simpa using this
  match fs, hlf, hf with
  | [f0, f1, f2, f3, f4, f5], _, hf =>
    simp only [List.map_cons, List.map_nil, List.cons.injEq, and_true] at hf
    obtain ⟨h0, h1, h2, h3, h4, h5⟩ := hf
    rw [eqF_cons (q := decide (x.nm = y.nm)) h0 (by decide) (run_part_plain (P := Tryz.prog) w plain9 (v := .string x.nm) rfl) (run_part_plain (P := Tryz.prog) w plain9 (v := .string y.nm) rfl) (by rw [run_equalIn_string (P := Tryz.prog) w 9998 9 x.nm y.nm Tryz.underlying9, str_same])]
    refine if_ok _ _ _ _ ?_
    rw [eqF_cons (q := decide (x.kd = y.kd)) h1 (by decide) (run_part_plain (P := Tryz.prog) w plainVK (v := .int .u8 (x.kd : Int)) rfl) (run_part_plain (P := Tryz.prog) w plainVK (v := .int .u8 (y.kd : Int)) rfl) (by rw [run_equalIn_int (P := Tryz.prog) w 9998 56 .u8 .u8 (x.kd : Int) (y.kd : Int) Tryz.underlying56, int_same])]
    refine if_ok _ _ _ _ ?_
    rw [eqF_cons (q := decide (x.fr = y.fr)) h2 (by decide) (run_part_plain (P := Tryz.prog) w plain9 (v := .string x.fr) rfl) (run_part_plain (P := Tryz.prog) w plain9 (v := .string y.fr) rfl) (by rw [run_equalIn_string (P := Tryz.prog) w 9998 9 x.fr y.fr Tryz.underlying9, str_same])]
    refine if_ok _ _ _ _ ?_
    rw [eqF_cons (q := decide (x.bn = y.bn)) h3 (by decide) (run_part_plain (P := Tryz.prog) w plain64 (v := .int .u64 (x.bn : Int)) rfl) (run_part_plain (P := Tryz.prog) w plain64 (v := .int .u64 (y.bn : Int)) rfl) (by rw [run_equalIn_int (P := Tryz.prog) w 9998 57 .u64 .u64 (x.bn : Int) (y.bn : Int) Tryz.underlying57, int_same])]
    refine if_ok _ _ _ _ ?_
    rw [eqF_cons (q := decide (x.rt = y.rt)) h4 (by decide) (run_part_plain (P := Tryz.prog) w plain32 (v := .int .u32 (x.rt : Int)) rfl) (run_part_plain (P := Tryz.prog) w plain32 (v := .int .u32 (y.rt : Int)) rfl) (by rw [run_equalIn_int (P := Tryz.prog) w 9998 39 .u32 .u32 (x.rt : Int) (y.rt : Int) Tryz.underlying39, int_same])]
    refine if_ok _ _ _ _ ?_
    have e1 := part_arr (encV x).toArray 5 w
    have e2 := part_arr (encV y).toArray 5 w
    rw [show (encV x).toArray.extract 5 (5 + 32) = (u8s x.hs).toArray from extr ([.string x.nm, .int .u8 (x.kd : Int), .string x.fr, .int .u64 (x.bn : Int), .int .u32 (x.rt : Int)]) x.hs hx] at e1
    rw [show (encV y).toArray.extract 5 (5 + 32) = (u8s y.hs).toArray from extr ([.string y.nm, .int .u8 (y.kd : Int), .string y.fr, .int .u64 (y.bn : Int), .int .u32 (y.rt : Int)]) y.hs hy] at e2
    rw [eqF_cons (q := decide (x.hs = y.hs)) h5 (by decide) e1 e2 (eq_arr_at hx hy 9997 w), eqF_nil]
    cases decide (x.hs = y.hs) <;> rfl
end Go.Proofs.YtnfcgifkghegjaaGreatDoor.Nd
/- The document's own Check of nodes. -/
namespace Go.Proofs.YtnfcgifkghegjaaGreatDoor.Nd
set_option linter.unusedVariables false
set_option linter.unusedSimpArgs false
open Go.ChangeShapes Go.WideShapes Go.ChangeAt Go.RowKit
open Ar Rg
open BigFrame
theorem sum_few {α : Type} (f : α → Nat) (b : Nat) : ∀ l : List α, (∀ x ∈ l, f x ≤ b) → (l.map f).sum ≤ l.length * b
  | [], _ => Nat.zero_le _
  | x :: l, h => by
    have h1 := h x (List.mem_cons_self ..)
    have h2 := sum_few f b l fun y hy => h y (List.mem_cons_of_mem _ hy)
    rw [List.map_cons, List.sum_cons, List.length_cons, Nat.succ_mul]
    omega
theorem few_sz {n : Nd} (h : Few n) : szN n ≤ 100000 := by
  obtain ⟨hI, hK, hV⟩ := h
  unfold szN
  split
  · obtain ⟨h1, h2⟩ := hI (by assumption)
    have := sum_few szI 210 n.I fun x hx => by have := h2 x hx; unfold szI; omega
    have : n.I.length * 210 ≤ 255 * 210 := Nat.mul_le_mul_right _ h1
    omega
  · split
    · obtain ⟨h1, h2⟩ := hK (by assumption)
      have := sum_few szK 85 n.K fun x hx => by have := h2 x hx; unfold szK; omega
      have : n.K.length * 85 ≤ 255 * 85 := Nat.mul_le_mul_right _ h1
      omega
    · split
      · obtain ⟨h1, h2⟩ := hV (by assumption)
        have := sum_few szV 79 n.V fun x hx => by have := h2 x hx; unfold szV; omega
        have : n.V.length * 79 ≤ 6 * 79 := Nat.mul_le_mul_right _ h1
        omega
      · omega
theorem ck_of (n : Nd) : (rtN n = false → ckN n = 4) ∧ (rtN n = true → ¬ 508 < szN n → ckN n = 0) ∧ (rtN n = true → 508 < szN n → ckN n = 2) := by
  unfold ckN
  refine ⟨fun h => by rw [h]; rfl, fun h h2 => ?_, fun h h2 => ?_⟩
  · rw [if_pos h, if_neg h2]
  · rw [if_pos h, if_pos h2]
theorem infoR : (Tryz.prog.info? 27).map (·.size) = some 4 := by kernel_rfl
set_option maxRecDepth 100000 in
set_option maxHeartbeats 8000000 in
theorem rcheckN_any (n : Nd) (hw : Wd n) (cs : Array Value) (w : World) (hn : NdAt w cs n) :
    Calls Tryz.prog 13 #[.agg cs] w fun e w' => e = .returned (.int .i64 (ckN n)) ∧ Below w.heap.size w w' := by
  have HNA := Lib.hid hn
  obtain ⟨AI, nI, cI, AK, nK, cK, AV, nV, cV, rfl, hI, hK, hV, bI, bK, bV, lI, lK, lV⟩ := hn
  have HSZ0 := Lib.hid (fun (w' : World) (hb : Below w.heap.size w w') => sizeR_any n _ w' (HNA.out.below hb))
  have HSM0 := Lib.hid (fun h : rtN n = true => few_sz (rt_few h))
  have HCK0 := Lib.hid (ck_of n)
  have hwK := hw.K
  have hwV := hw.V
  obtain ⟨kd, I, K, V⟩ := n
  dsimp only at hI hK hV lI lK lV hwK hwV
  obtain ⟨Z, hZ⟩ : ∃ Z, szN ⟨kd, I, K, V⟩ = Z := ⟨_, rfl⟩
  rw [hZ] at HSZ0 HSM0 HCK0
  have HSZ := HSZ0
  have HSM := HSM0
  have HCK := HCK0
  clear hZ HSZ0 HSM0 HCK0
  have HB0 := Lib.hid (show Below w.heap.size w (w.alloc (.cells #[.int .u8 (kd : Int), .slice AI nI cI, .slice AK nK cK, .slice AV nV cV] 27)) from (Below.refl _ _).alloc (Nat.le_refl _) _)
  have HR0 := Lib.hid (heap_alloc_new w (.cells #[.int .u8 (kd : Int), .slice AI nI cI, .slice AK nK cK, .slice AV nV cV] 27))
  have CI := Lib.hid (fun (w' : World) (hb : Below w.heap.size w w') => It.refCheck_any I AI nI cI w.heap.size hI bI w' hb.size (lI.below hb))
  have CK := Lib.hid (fun (w' : World) (hb : Below w.heap.size w w') => refKids_any K (fun x hx => (hwK x hx).2) AK nK cK w.heap.size hK bK w' hb.size (lK.below hb))
  have CV := Lib.hid (fun (w' : World) (hb : Below w.heap.size w w') => refVolumes_any V (fun x hx => (hwV x hx).2.2.2) AV nV cV w.heap.size hV bV w' hb.size (lV.below hb))
  unfold It.errF at CI
  by_cases k1 : kd = 1
  · have q1 : ((kd : Int) == 1) = true := by rw [k1]; rfl
    have hE : rtN ⟨kd, I, K, V⟩ = (decide (nK = 0) && (decide (nV = 0) && ((decide (1 ≤ nI) && decide (nI ≤ 255)) && It.rt I))) := by unfold rtN okCount; rw [if_pos k1, hI, hK, hV]
    clear k1 CK CV lI lK lV hwK hwV hI hK hV HNA
    have hw2 : IntKind.i64.wrap ((nK : Int) + (nV : Int)) = (nK : Int) + (nV : Int) := IntWalk.i64_in _ ⟨by omega, by omega⟩
    by_cases hs : nK + nV = 0
    · have hz : ((nK : Int) + (nV : Int) == 0) = true := by rw [beq_iff_eq]; omega
      by_cases h0 : 1 ≤ nI
      · have d1 : decide ((1 : Int) ≤ (nI : Int)) = true := by simp; omega
        by_cases h2 : nI ≤ 255
        · have d2 : decide ((nI : Int) ≤ 255) = true := by simp; omega
          cases hr : It.rt I
          · rw [hr] at CI
            have HF := Lib.hid (HCK.out.1 (by rw [hE, hr]; simp))
            rw [HF.out]
            clear HF HCK HSM HSZ
            go_enter Tryz.func13, Tryz.ntmps13
            go_wp2_with fail
            generalize w.alloc _ = w0 at *
            refine (CI.out w0 HB0.out).mono ?_
            rintro e w1 ⟨rfl, hb⟩
            have HB1 := Lib.hid (HB0.out.trans (hb.mono HB0.out.size))
            have HR1 := Lib.hid ((hb.block _ (row_lt HR0.out)).trans HR0.out)
            clear hb HB0 HR0
            go_wp2
            go_ret
            exact ⟨rfl, HB1.out⟩
          · rw [hr] at CI
            have hok : rtN ⟨kd, I, K, V⟩ = true := by rw [hE, hr]; simp; omega
            have hsm := HSM.out hok
            have HW := Lib.hid (w6_in (by omega) : w6 ((Z : Nat) : Int) = (Z : Int))
            rw [HW.out] at HSZ
            by_cases h5 : 508 < Z
            · have HF := Lib.hid (HCK.out.2.2 hok h5)
              have d : decide ((508 : Int) < (Z : Int)) = true := by simp; omega
              rw [HF.out]
              clear HF h5 HCK HSM hok hsm HW
              go_enter Tryz.func13, Tryz.ntmps13
              go_wp2_with fail
              generalize w.alloc _ = w0 at *
              refine (CI.out w0 HB0.out).mono ?_
              rintro e w1 ⟨rfl, hb⟩
              have HB1 := Lib.hid (HB0.out.trans (hb.mono HB0.out.size))
              have HR1 := Lib.hid ((hb.block _ (row_lt HR0.out)).trans HR0.out)
              clear hb HB0 HR0
              go_wp2_with (refine wpList_load_row rfl 27 (.tmp 1) rfl w.heap.size rfl 27 _ (0, 0) _ HR1.out Tryz.underlying27 rfl infoR ?_)
              refine (HSZ.out w1 HB1.out).mono ?_
              rintro e w2 ⟨rfl, hb⟩
              have HB2 := Lib.hid (HB1.out.trans (hb.mono HB1.out.size))
              clear hb HB1
              go_wp2
              go_ret
              exact ⟨rfl, HB2.out⟩
            · have HF := Lib.hid (HCK.out.2.1 hok h5)
              have d : decide ((508 : Int) < (Z : Int)) = false := by simp; omega
              rw [HF.out]
              clear HF h5 HCK HSM hok hsm HW
              go_enter Tryz.func13, Tryz.ntmps13
              go_wp2_with fail
              generalize w.alloc _ = w0 at *
              refine (CI.out w0 HB0.out).mono ?_
              rintro e w1 ⟨rfl, hb⟩
              have HB1 := Lib.hid (HB0.out.trans (hb.mono HB0.out.size))
              have HR1 := Lib.hid ((hb.block _ (row_lt HR0.out)).trans HR0.out)
              clear hb HB0 HR0
              go_wp2_with (refine wpList_load_row rfl 27 (.tmp 1) rfl w.heap.size rfl 27 _ (0, 0) _ HR1.out Tryz.underlying27 rfl infoR ?_)
              refine (HSZ.out w1 HB1.out).mono ?_
              rintro e w2 ⟨rfl, hb⟩
              have HB2 := Lib.hid (HB1.out.trans (hb.mono HB1.out.size))
              clear hb HB1
              go_wp2
              go_ret
              exact ⟨rfl, HB2.out⟩
        · have d2 : decide ((nI : Int) ≤ 255) = false := by simp; omega
          have HF := Lib.hid (HCK.out.1 (by rw [hE]; simp; omega))
          rw [HF.out]
          clear HF HCK HSM HSZ
          go_enter Tryz.func13, Tryz.ntmps13
          go_wp2
          go_ret
          exact ⟨rfl, HB0.out⟩
      · have d1 : decide ((1 : Int) ≤ (nI : Int)) = false := by simp; omega
        have HF := Lib.hid (HCK.out.1 (by rw [hE]; simp; omega))
        rw [HF.out]
        clear HF HCK HSM HSZ
        go_enter Tryz.func13, Tryz.ntmps13
        go_wp2
        go_ret
        exact ⟨rfl, HB0.out⟩
    · have hz : ((nK : Int) + (nV : Int) == 0) = false := by rw [beq_eq_false_iff_ne]; omega
      have HF := Lib.hid (HCK.out.1 (by rw [hE]; simp; omega))
      rw [HF.out]
      clear HF HCK HSM HSZ
      go_enter Tryz.func13, Tryz.ntmps13
      go_wp2
      go_ret
      exact ⟨rfl, HB0.out⟩
  have q1 : ((kd : Int) == 1) = false := by rw [beq_eq_false_iff_ne]; omega
  by_cases k2 : kd = 2
  · have q2 : ((kd : Int) == 2) = true := by rw [k2]; rfl
    have hE : rtN ⟨kd, I, K, V⟩ = (decide (nI = 0) && (decide (nV = 0) && okKids K)) := by unfold rtN okKids; rw [if_neg k1, if_pos k2, hI, hV]
    clear k1 k2 CI CV lI lK lV hwK hwV hI hK hV HNA
    have hw2 : IntKind.i64.wrap ((nI : Int) + (nV : Int)) = (nI : Int) + (nV : Int) := IntWalk.i64_in _ ⟨by omega, by omega⟩
    by_cases hs : nI + nV = 0
    · have hz : ((nI : Int) + (nV : Int) == 0) = true := by rw [beq_iff_eq]; omega
      cases hr : okKids K
      · rw [hr] at CK
        have HF := Lib.hid (HCK.out.1 (by rw [hE, hr]; simp))
        rw [HF.out]
        clear HF HCK HSM HSZ
        go_enter Tryz.func13, Tryz.ntmps13
        go_wp2_with fail
        generalize w.alloc _ = w0 at *
        refine (CK.out w0 HB0.out).mono ?_
        rintro e w1 ⟨rfl, hb⟩
        have HB1 := Lib.hid (HB0.out.trans (hb.mono HB0.out.size))
        have HR1 := Lib.hid ((hb.block _ (row_lt HR0.out)).trans HR0.out)
        clear hb HB0 HR0
        go_wp2
        go_ret
        exact ⟨rfl, HB1.out⟩
      · rw [hr] at CK
        have hok : rtN ⟨kd, I, K, V⟩ = true := by rw [hE, hr]; simp; omega
        have hsm := HSM.out hok
        have HW := Lib.hid (w6_in (by omega) : w6 ((Z : Nat) : Int) = (Z : Int))
        rw [HW.out] at HSZ
        by_cases h5 : 508 < Z
        · have HF := Lib.hid (HCK.out.2.2 hok h5)
          have d : decide ((508 : Int) < (Z : Int)) = true := by simp; omega
          rw [HF.out]
          clear HF h5 HCK HSM hok hsm HW
          go_enter Tryz.func13, Tryz.ntmps13
          go_wp2_with fail
          generalize w.alloc _ = w0 at *
          refine (CK.out w0 HB0.out).mono ?_
          rintro e w1 ⟨rfl, hb⟩
          have HB1 := Lib.hid (HB0.out.trans (hb.mono HB0.out.size))
          have HR1 := Lib.hid ((hb.block _ (row_lt HR0.out)).trans HR0.out)
          clear hb HB0 HR0
          go_wp2_with (refine wpList_load_row rfl 27 (.tmp 1) rfl w.heap.size rfl 27 _ (0, 0) _ HR1.out Tryz.underlying27 rfl infoR ?_)
          refine (HSZ.out w1 HB1.out).mono ?_
          rintro e w2 ⟨rfl, hb⟩
          have HB2 := Lib.hid (HB1.out.trans (hb.mono HB1.out.size))
          clear hb HB1
          go_wp2
          go_ret
          exact ⟨rfl, HB2.out⟩
        · have HF := Lib.hid (HCK.out.2.1 hok h5)
          have d : decide ((508 : Int) < (Z : Int)) = false := by simp; omega
          rw [HF.out]
          clear HF h5 HCK HSM hok hsm HW
          go_enter Tryz.func13, Tryz.ntmps13
          go_wp2_with fail
          generalize w.alloc _ = w0 at *
          refine (CK.out w0 HB0.out).mono ?_
          rintro e w1 ⟨rfl, hb⟩
          have HB1 := Lib.hid (HB0.out.trans (hb.mono HB0.out.size))
          have HR1 := Lib.hid ((hb.block _ (row_lt HR0.out)).trans HR0.out)
          clear hb HB0 HR0
          go_wp2_with (refine wpList_load_row rfl 27 (.tmp 1) rfl w.heap.size rfl 27 _ (0, 0) _ HR1.out Tryz.underlying27 rfl infoR ?_)
          refine (HSZ.out w1 HB1.out).mono ?_
          rintro e w2 ⟨rfl, hb⟩
          have HB2 := Lib.hid (HB1.out.trans (hb.mono HB1.out.size))
          clear hb HB1
          go_wp2
          go_ret
          exact ⟨rfl, HB2.out⟩
    · have hz : ((nI : Int) + (nV : Int) == 0) = false := by rw [beq_eq_false_iff_ne]; omega
      have HF := Lib.hid (HCK.out.1 (by rw [hE]; simp; omega))
      rw [HF.out]
      clear HF HCK HSM HSZ
      go_enter Tryz.func13, Tryz.ntmps13
      go_wp2
      go_ret
      exact ⟨rfl, HB0.out⟩
  have q2 : ((kd : Int) == 2) = false := by rw [beq_eq_false_iff_ne]; omega
  by_cases k3 : kd = 3
  · have q3 : ((kd : Int) == 3) = true := by rw [k3]; rfl
    have hE : rtN ⟨kd, I, K, V⟩ = (decide (nI = 0) && (decide (nK = 0) && okVols V)) := by unfold rtN okVols; rw [if_neg k1, if_neg k2, if_pos k3, hI, hK]
    clear k1 k2 k3 CI CK lI lK lV hwK hwV hI hK hV HNA
    have hw2 : IntKind.i64.wrap ((nI : Int) + (nK : Int)) = (nI : Int) + (nK : Int) := IntWalk.i64_in _ ⟨by omega, by omega⟩
    by_cases hs : nI + nK = 0
    · have hz : ((nI : Int) + (nK : Int) == 0) = true := by rw [beq_iff_eq]; omega
      cases hr : okVols V
      · rw [hr] at CV
        have HF := Lib.hid (HCK.out.1 (by rw [hE, hr]; simp))
        rw [HF.out]
        clear HF HCK HSM HSZ
        go_enter Tryz.func13, Tryz.ntmps13
        go_wp2_with fail
        generalize w.alloc _ = w0 at *
        refine (CV.out w0 HB0.out).mono ?_
        rintro e w1 ⟨rfl, hb⟩
        have HB1 := Lib.hid (HB0.out.trans (hb.mono HB0.out.size))
        have HR1 := Lib.hid ((hb.block _ (row_lt HR0.out)).trans HR0.out)
        clear hb HB0 HR0
        go_wp2
        go_ret
        exact ⟨rfl, HB1.out⟩
      · rw [hr] at CV
        have hok : rtN ⟨kd, I, K, V⟩ = true := by rw [hE, hr]; simp; omega
        have hsm := HSM.out hok
        have HW := Lib.hid (w6_in (by omega) : w6 ((Z : Nat) : Int) = (Z : Int))
        rw [HW.out] at HSZ
        by_cases h5 : 508 < Z
        · have HF := Lib.hid (HCK.out.2.2 hok h5)
          have d : decide ((508 : Int) < (Z : Int)) = true := by simp; omega
          rw [HF.out]
          clear HF h5 HCK HSM hok hsm HW
          go_enter Tryz.func13, Tryz.ntmps13
          go_wp2_with fail
          generalize w.alloc _ = w0 at *
          refine (CV.out w0 HB0.out).mono ?_
          rintro e w1 ⟨rfl, hb⟩
          have HB1 := Lib.hid (HB0.out.trans (hb.mono HB0.out.size))
          have HR1 := Lib.hid ((hb.block _ (row_lt HR0.out)).trans HR0.out)
          clear hb HB0 HR0
          go_wp2_with (refine wpList_load_row rfl 27 (.tmp 1) rfl w.heap.size rfl 27 _ (0, 0) _ HR1.out Tryz.underlying27 rfl infoR ?_)
          refine (HSZ.out w1 HB1.out).mono ?_
          rintro e w2 ⟨rfl, hb⟩
          have HB2 := Lib.hid (HB1.out.trans (hb.mono HB1.out.size))
          clear hb HB1
          go_wp2
          go_ret
          exact ⟨rfl, HB2.out⟩
        · have HF := Lib.hid (HCK.out.2.1 hok h5)
          have d : decide ((508 : Int) < (Z : Int)) = false := by simp; omega
          rw [HF.out]
          clear HF h5 HCK HSM hok hsm HW
          go_enter Tryz.func13, Tryz.ntmps13
          go_wp2_with fail
          generalize w.alloc _ = w0 at *
          refine (CV.out w0 HB0.out).mono ?_
          rintro e w1 ⟨rfl, hb⟩
          have HB1 := Lib.hid (HB0.out.trans (hb.mono HB0.out.size))
          have HR1 := Lib.hid ((hb.block _ (row_lt HR0.out)).trans HR0.out)
          clear hb HB0 HR0
          go_wp2_with (refine wpList_load_row rfl 27 (.tmp 1) rfl w.heap.size rfl 27 _ (0, 0) _ HR1.out Tryz.underlying27 rfl infoR ?_)
          refine (HSZ.out w1 HB1.out).mono ?_
          rintro e w2 ⟨rfl, hb⟩
          have HB2 := Lib.hid (HB1.out.trans (hb.mono HB1.out.size))
          clear hb HB1
          go_wp2
          go_ret
          exact ⟨rfl, HB2.out⟩
    · have hz : ((nI : Int) + (nK : Int) == 0) = false := by rw [beq_eq_false_iff_ne]; omega
      have HF := Lib.hid (HCK.out.1 (by rw [hE]; simp; omega))
      rw [HF.out]
      clear HF HCK HSM HSZ
      go_enter Tryz.func13, Tryz.ntmps13
      go_wp2
      go_ret
      exact ⟨rfl, HB0.out⟩
  have q3 : ((kd : Int) == 3) = false := by rw [beq_eq_false_iff_ne]; omega
  have hE : rtN ⟨kd, I, K, V⟩ = false := by unfold rtN; rw [if_neg k1, if_neg k2, if_neg k3]
  clear k1 k2 k3 CI CK CV lI lK lV hwK hwV hI hK hV HNA
  have HF := Lib.hid (HCK.out.1 (hE))
  rw [HF.out]
  clear HF HCK HSM HSZ
  go_enter Tryz.func13, Tryz.ntmps13
  go_wp2
  go_ret
  exact ⟨rfl, HB0.out⟩
end Go.Proofs.YtnfcgifkghegjaaGreatDoor.Nd
/- Contracts of the document's Same: items, volumes, nodes. -/
namespace Go.Proofs.YtnfcgifkghegjaaGreatDoor.Nd
set_option linter.unusedVariables false
set_option linter.unusedSimpArgs false
open Go.ChangeShapes Go.WideShapes Go.ChangeAt Go.RowKit
open Ar Rg
open BigFrame
open Pk (u8s u8s_length)
open It (str_le below_drewN)
theorem guardV : Tryz.prog.eqGuardType Tryz.prog.depth 59 = false := by kernel_rfl
theorem guardK : Tryz.prog.eqGuardType Tryz.prog.depth 55 = false := by kernel_rfl
theorem range_below {wr w' : World} {b o : Nat} {l : List Value} (hr : wr.rangeAt b o l) (hb : b < wr.heap.size) (hS : Below wr.heap.size wr w') : w'.rangeAt b o l := fun j v hv => (hS.cell (p := ⟨b, _, none⟩) hb).trans (hr j v hv)
set_option maxRecDepth 100000 in
set_option maxHeartbeats 1000000 in
theorem sameI_any (D E : List It.Itm) (A A' : Option Addr) (n c n' c' B B' : Nat) (hn : n = D.length) (hn' : n' = E.length) (hm : n ≤ 281474976710656) (w : World) (hB : B ≤ w.heap.size) (hB' : B' ≤ w.heap.size) (hD : Ls It.enc 2 w B A D) (hE : Ls It.enc 2 w B' A' E) :
    Calls Tryz.prog 25 #[.slice A n c, .slice A' n' c'] w fun e w' => e = .returned (.bool (eqL eqI D E)) ∧ Below w.heap.size w w' := by
  have HN := Lib.hid hn
  have HN' := Lib.hid hn'
  have HD := Lib.hid hD
  have HE := Lib.hid hE
  clear hn hn' hD hE
  by_cases hl : n = n'
  · subst hl
    go_enter Tryz.func25, Tryz.ntmps25
    go_wp2_with fail
    go_loopw [13] (fun v wr => ∃ i : Nat, i ≤ n ∧ v = .int .i64 i ∧ Hid (D.take i = E.take i) ∧ Hid (Below w.heap.size w wr)) (fun v _ => n - (intOf v).toNat)
    case atStart => exact ⟨0, Nat.zero_le _, by go_num, rfl, Below.refl _ _⟩
    case round =>
      obtain ⟨i, hi, rfl, htk, hbel⟩ := hrel
      by_cases hlt : i < n
      · obtain ⟨x, hx⟩ : ∃ x, D[i]? = some x := ⟨_, List.getElem?_eq_getElem (by rw [← HN.out]; exact hlt)⟩
        obtain ⟨y, hy⟩ : ∃ y, E[i]? = some y := ⟨_, List.getElem?_eq_getElem (by rw [← HN'.out]; exact hlt)⟩
        obtain ⟨b, o, hAe, hb, hr⟩ := (HD.out.below ((Hid.out hbel).mono hB)) i x hx
        obtain ⟨b', o', hAe', hb', hr'⟩ := (HE.out.below ((Hid.out hbel).mono hB')) i y hy
        have hc0 : wr.cell? ⟨b, o + i * 2, none⟩ = some (.string x.k) := hr 0 _ rfl
        have hc1 : wr.cell? ⟨b, o + i * 2 + 1, none⟩ = some (.string x.v) := hr 1 _ rfl
        have hd0 : wr.cell? ⟨b', o' + i * 2, none⟩ = some (.string y.k) := hr' 0 _ rfl
        have hd1 : wr.cell? ⟨b', o' + i * 2 + 1, none⟩ = some (.string y.v) := hr' 1 _ rfl
        clear hr hr'
        subst hAe hAe'
        by_cases hk : x.k = y.k
        · have he0 : (x.k.toList == y.k.toList) = true := by rw [str_same]; exact decide_eq_true hk
          by_cases hv : x.v = y.v
          · have he1 : (x.v.toList == y.v.toList) = true := by rw [str_same]; exact decide_eq_true hv
            have HT := Lib.hid (take_same (Hid.out htk) hx ((show y = x by obtain ⟨a1, a2⟩ := x; obtain ⟨b1, b2⟩ := y; dsimp only at hk hv; rw [hk, hv]) ▸ hy))
            clear htk hx hy hk hv
            go_wp2_with fail
            go_big_quiet (fail)
            have HB2 := Lib.hid (below_drewN (Hid.out hbel) nq)
            clear hbel
            generalize World.drewN _ _ = W2 at *
            go_wp2
            exact ⟨⟨i + 1, by omega, by go_num, HT.out, HB2.out⟩, by simp [intOf] <;> omega⟩
          · have he1 : (x.v.toList == y.v.toList) = false := by rw [str_same]; exact decide_eq_false hv
            have HF := Lib.hid (eqL_no eqI_iff (A := D) (B := E) fun e => hv (by rw [e, hy] at hx; cases hx; rfl))
            clear htk hx hy hk hv
            go_wp2_with fail
            go_big_quiet (fail)
            have HB2 := Lib.hid (below_drewN (Hid.out hbel) nq)
            clear hbel
            generalize World.drewN _ _ = W2 at *
            go_wp2
            go_ret
            exact ⟨by rw [HF.out]; rfl, HB2.out⟩
        · have he0 : (x.k.toList == y.k.toList) = false := by rw [str_same]; exact decide_eq_false hk
          have HF := Lib.hid (eqL_no eqI_iff (A := D) (B := E) fun e => hk (by rw [e, hy] at hx; cases hx; rfl))
          clear htk hx hy hk
          go_wp2_with fail
          go_big_quiet (fail)
          have HB2 := Lib.hid (below_drewN (Hid.out hbel) nq)
          clear hbel
          generalize World.drewN _ _ = W2 at *
          go_wp2
          go_ret
          exact ⟨by rw [HF.out]; rfl, HB2.out⟩
      · have HT := Lib.hid (show eqL eqI D E = true from (eqL_iff eqI_iff).2 (by
          have h := Hid.out htk
          rwa [List.take_of_length_le (by rw [← HN.out]; omega), List.take_of_length_le (by rw [← HN'.out]; omega)] at h))
        go_wp2
        go_ret
        exact ⟨by rw [HT.out]; rfl, Hid.out hbel⟩
  · have hne : ((n : Int) != (n' : Int)) = true := by rw [bne_iff_ne]; omega
    have HF := Lib.hid (eqL_no eqI_iff (A := D) (B := E) fun e => hl (by rw [HN.out, HN'.out, e]))
    go_enter Tryz.func25, Tryz.ntmps25
    go_wp2
    go_ret
    exact ⟨by rw [HF.out]; rfl, Below.refl _ _⟩
set_option maxRecDepth 100000 in
set_option maxHeartbeats 4000000 in
theorem sameV_any (D E : List Vo) (wD : ∀ x ∈ D, x.hs.length = 32) (wE : ∀ x ∈ E, x.hs.length = 32) (A A' : Option Addr) (n c n' c' B B' : Nat) (hn : n = D.length) (hn' : n' = E.length) (hm : n ≤ 281474976710656) (w : World) (hB : B ≤ w.heap.size) (hB' : B' ≤ w.heap.size) (hD : Ls ecV 37 w B A D) (hE : Ls ecV 37 w B' A' E) :
    Calls Tryz.prog 26 #[.slice A n c, .slice A' n' c'] w fun e w' => e = .returned (.bool (eqL eqV D E)) ∧ Below w.heap.size w w' := by
  have HN := Lib.hid hn
  have HN' := Lib.hid hn'
  have HD := Lib.hid hD
  have HE := Lib.hid hE
  have HWD := Lib.hid wD
  have HWE := Lib.hid wE
  clear hn hn' hD hE wD wE
  by_cases hl : n = n'
  · subst hl
    go_enter Tryz.func26, Tryz.ntmps26
    go_wp2_with fail
    go_loopw [13] (fun v wr => ∃ i : Nat, i ≤ n ∧ v = .int .i64 i ∧ Hid (D.take i = E.take i) ∧ Hid (Below w.heap.size w wr)) (fun v _ => n - (intOf v).toNat)
    case atStart => exact ⟨0, Nat.zero_le _, by go_num, rfl, Below.refl _ _⟩
    case round =>
      obtain ⟨i, hi, rfl, htk, hbel⟩ := hrel
      by_cases hlt : i < n
      · obtain ⟨x, hx⟩ : ∃ x, D[i]? = some x := ⟨_, List.getElem?_eq_getElem (by rw [← HN.out]; exact hlt)⟩
        obtain ⟨y, hy⟩ : ∃ y, E[i]? = some y := ⟨_, List.getElem?_eq_getElem (by rw [← HN'.out]; exact hlt)⟩
        have HXL := Lib.hid (HWD.out x (List.mem_of_getElem? hx))
        have HYL := Lib.hid (HWE.out y (List.mem_of_getElem? hy))
        obtain ⟨b, o, hAe, hb, hr⟩ := (HD.out.below ((Hid.out hbel).mono hB)) i x hx
        obtain ⟨b', o', hAe', hb', hr'⟩ := (HE.out.below ((Hid.out hbel).mono hB')) i y hy
        have HRX := Lib.hid hr
        have HRY := Lib.hid hr'
        have HBX := Lib.hid (Nat.lt_of_lt_of_le hb (Nat.le_trans hB (Hid.out hbel).size))
        have HBY := Lib.hid (Nat.lt_of_lt_of_le hb' (Nat.le_trans hB' (Hid.out hbel).size))
        have HXX := Lib.hid hx
        have HYY := Lib.hid hy
        clear hr hr' hx hy hb hb'
        subst hAe hAe'
        have heq := fun w => eq_vol x y HXL.out HYL.out w
        have hgd := guardV
        obtain ⟨q, hq⟩ : ∃ q, eqV x y = q := ⟨_, rfl⟩
        rw [hq] at heq
        have HQ := Lib.hid hq
        clear hq
        go_wp2_with fail
        refine wp_region_G (fun w' => Below wr.heap.size wr w') (by kernel_rfl) (by kernel_rfl) (Below.refl _ _).drew ?_
        refine wpG_val (.slice (some ⟨b, o, none⟩) n c) rfl (by rfl) (fun w' hS => by go_simp) ?_
        simp only [List.setIfInBounds_toArray, List.set_cons_zero, List.set_cons_succ]
        refine wpG_val (.int .i64 i) rfl (by rfl) (fun w' hS => by go_simp) ?_
        simp only [List.setIfInBounds_toArray, List.set_cons_zero, List.set_cons_succ]
        refine wpG_val (.pointer (some ⟨b, o + i * 37, none⟩)) rfl (by rfl) (fun w' hS => by go_simp) ?_
        simp only [List.setIfInBounds_toArray, List.set_cons_zero, List.set_cons_succ]
        refine wpG_val (.agg (ecV x).toArray) rfl (by rfl) (fun w' hS => load_run 59 (.tmp 18) rfl b (o + i * 37) rfl (ecV x) _ (range_below HRX.out HBX.out hS) Tryz.underlying59 rfl (infoVs x)) ?_
        simp only [List.setIfInBounds_toArray, List.set_cons_zero, List.set_cons_succ]
        refine wpG_val (.slice (some ⟨b', o', none⟩) n c') rfl (by rfl) (fun w' hS => by go_simp) ?_
        simp only [List.setIfInBounds_toArray, List.set_cons_zero, List.set_cons_succ]
        refine wpG_val (.int .i64 i) rfl (by rfl) (fun w' hS => by go_simp) ?_
        simp only [List.setIfInBounds_toArray, List.set_cons_zero, List.set_cons_succ]
        refine wpG_val (.pointer (some ⟨b', o' + i * 37, none⟩)) rfl (by rfl) (fun w' hS => by go_simp) ?_
        simp only [List.setIfInBounds_toArray, List.set_cons_zero, List.set_cons_succ]
        refine wpG_val (.agg (ecV y).toArray) rfl (by rfl) (fun w' hS => load_run 59 (.tmp 22) rfl b' (o' + i * 37) rfl (ecV y) _ (range_below HRY.out HBY.out hS) Tryz.underlying59 rfl (infoVs y)) ?_
        simp only [List.setIfInBounds_toArray, List.set_cons_zero, List.set_cons_succ]
        refine wpG_val (.bool (!q)) rfl (by rfl) (fun w' hS => by go_simp) ?_
        simp only [List.setIfInBounds_toArray, List.set_cons_zero, List.set_cons_succ]
        refine wpG_nil ?_
        intro w9 hS9
        have HB2 := Lib.hid ((Hid.out hbel).trans (hS9.mono (Hid.out hbel).size))
        clear hS9 hbel heq hgd
        cases q
        · have HF := Lib.hid (eqL_no eqV_iff (A := D) (B := E) fun e => by
            have h1 := HYY.out
            rw [← e, HXX.out] at h1
            cases h1
            have h2 := (eqV_iff x x).2 rfl
            rw [HQ.out] at h2
            cases h2)
          clear htk
          go_wp2
          go_ret
          exact ⟨by rw [HF.out]; rfl, HB2.out⟩
        · have HT := Lib.hid (take_same (Hid.out htk) HXX.out (((eqV_iff x y).1 HQ.out) ▸ HYY.out))
          clear htk
          go_wp2
          exact ⟨⟨i + 1, by omega, by go_num, HT.out, HB2.out⟩, by simp [intOf] <;> omega⟩
      · have HT := Lib.hid (show eqL eqV D E = true from (eqL_iff eqV_iff).2 (by
          have h := Hid.out htk
          rwa [List.take_of_length_le (by rw [← HN.out]; omega), List.take_of_length_le (by rw [← HN'.out]; omega)] at h))
        go_wp2
        go_ret
        exact ⟨by rw [HT.out]; rfl, Hid.out hbel⟩
  · have hne : ((n : Int) != (n' : Int)) = true := by rw [bne_iff_ne]; omega
    have HF := Lib.hid (eqL_no eqV_iff (A := D) (B := E) fun e => hl (by rw [HN.out, HN'.out, e]))
    go_enter Tryz.func26, Tryz.ntmps26
    go_wp2
    go_ret
    exact ⟨by rw [HF.out]; rfl, Below.refl _ _⟩
set_option maxRecDepth 100000 in
set_option maxHeartbeats 8000000 in
theorem same_any (n m : Nd) (hw : Wd n) (hv : Wd m) (cs ds : Array Value) (w : World) (hn : NdAt w cs n) (hm : NdAt w ds m) :
    Calls Tryz.prog 11 #[.agg cs, .agg ds] w fun e w' => e = .returned (.bool (eqN n m)) ∧ Below w.heap.size w w' := by
  obtain ⟨AI, nI, dI, AK, nK, dK, AV, nV, dV, rfl, hI, hK, hV, bI, bK, bV, lI, lK, lV⟩ := hn
  obtain ⟨BI, mI, eI, BK, mK, eK, BV, mV, eV, rfl, gI, gK, gV, aI, aK, aV, kI, kK, kV⟩ := hm
  obtain ⟨kd, I, K, V⟩ := n
  obtain ⟨kd', I', K', V'⟩ := m
  obtain ⟨wK, wV⟩ := hw
  obtain ⟨vK, vV⟩ := hv
  dsimp only at hI hK hV lI lK lV wK wV gI gK gV kI kK kV vK vV ⊢
  have hC1 := fun w' (hb : Below w.heap.size w w') => sameI_any I I' AI BI nI dI mI eI w.heap.size w.heap.size hI gI bI w' hb.size hb.size (lI.below hb) (kI.below hb)
  have hC2 := fun w' (hb : Below w.heap.size w w') => sameV_any V V' (fun x hx => (wV x hx).2.2.2) (fun x hx => (vV x hx).2.2.2) AV BV nV dV mV eV w.heap.size w.heap.size hV gV bV w' hb.size hb.size (lV.below hb) (kV.below hb)
  have HC1 := Lib.hid hC1
  have HC2 := Lib.hid hC2
  have HLK := Lib.hid lK
  have HLM := Lib.hid kK
  have HWK := Lib.hid (show ∀ x ∈ K, x.hs.length = 32 from fun x hx => (wK x hx).2)
  have HVK := Lib.hid (show ∀ x ∈ K', x.hs.length = 32 from fun x hx => (vK x hx).2)
  have HK := Lib.hid hK
  have HM := Lib.hid gK
  obtain ⟨R1, R2, S0, Z0⟩ := two_new w #[.int .u8 (kd : Int), .slice AI nI dI, .slice AK nK dK, .slice AV nV dV] #[.int .u8 (kd' : Int), .slice BI mI eI, .slice BK mK eK, .slice BV mV eV] 27 27
  have HR1 := Lib.hid R1
  have HR2 := Lib.hid R2
  have HS0 := Lib.hid S0
  obtain ⟨R, hR⟩ : ∃ R, eqN ⟨kd, I, K, V⟩ ⟨kd', I', K', V'⟩ = R := ⟨_, rfl⟩
  rw [hR]
  have HR := Lib.hid hR
  unfold eqN at HR
  dsimp only at HR
  rw [← hK, ← gK] at HR
  clear hR hC1 hC2 lI lK lV kI kK kV wK wV vK vV hI hK hV gI gK gV R1 R2 S0 Z0
  by_cases hkd : kd = kd'
  · have q1 : ((kd : Int) != (kd' : Int)) = false := by rw [bne_eq_false_iff_eq]; omega
    cases hq : eqL eqI I I'
    · rw [hq] at HC1 HR
      have HX := Lib.hid (show R = false by rw [← HR.out]; simp)
      clear hq HR hkd
      go_enter Tryz.func11, Tryz.ntmps11
      go_wp2_with (first
        | (go_at_call 25; refine (HC1.out _ HS0.out).mono ?_; rintro e w3 ⟨rfl, hb3⟩; have HB3 := Lib.hid (HS0.out.trans (hb3.mono HS0.out.size)); have HR3 := Lib.hid ((hb3.block _ (row_lt HR1.out)).trans HR1.out); have HR4 := Lib.hid ((hb3.block _ (row_lt HR2.out)).trans HR2.out); have n2 : w3.cell? ⟨w.heap.size, 2, none⟩ = some (.slice AK nK dK) := cell_of_row _ _ 2 _ _ _ HR3.out; have n3 : w3.cell? ⟨w.heap.size, 3, none⟩ = some (.slice AV nV dV) := cell_of_row _ _ 3 _ _ _ HR3.out; have k2 : w3.cell? ⟨w.heap.size + 1, 2, none⟩ = some (.slice BK mK eK) := cell_of_row _ _ 2 _ _ _ HR4.out; have k3 : w3.cell? ⟨w.heap.size + 1, 3, none⟩ = some (.slice BV mV eV) := cell_of_row _ _ 3 _ _ _ HR4.out; clear hb3)
        | (go_at_call 26; refine (HC2.out _ HB3.out).mono ?_; rintro e w5 ⟨rfl, hb5⟩; have HB5 := Lib.hid (HB3.out.trans (hb5.mono HB3.out.size)); have HR5 := Lib.hid ((hb5.block _ (row_lt HR3.out)).trans HR3.out); have HR6 := Lib.hid ((hb5.block _ (row_lt HR4.out)).trans HR4.out); have n5 : w5.cell? ⟨w.heap.size, 2, none⟩ = some (.slice AK nK dK) := cell_of_row _ _ 2 _ _ _ HR5.out; clear hb5))
      go_ret
      exact ⟨by rw [HX.out]; rfl, HB3.out⟩
    · rw [hq] at HC1 HR
      by_cases hlen : nK = mK
      · have q2 : ((nK : Int) != (mK : Int)) = false := by rw [bne_eq_false_iff_eq]; omega
        cases hq2 : eqL eqV V V'
        · rw [hq2] at HC2 HR
          have HX := Lib.hid (show R = false by rw [← HR.out]; simp)
          clear hq hq2 HR hkd hlen
          go_enter Tryz.func11, Tryz.ntmps11
          go_wp2_with (first
            | (go_at_call 25; refine (HC1.out _ HS0.out).mono ?_; rintro e w3 ⟨rfl, hb3⟩; have HB3 := Lib.hid (HS0.out.trans (hb3.mono HS0.out.size)); have HR3 := Lib.hid ((hb3.block _ (row_lt HR1.out)).trans HR1.out); have HR4 := Lib.hid ((hb3.block _ (row_lt HR2.out)).trans HR2.out); have n2 : w3.cell? ⟨w.heap.size, 2, none⟩ = some (.slice AK nK dK) := cell_of_row _ _ 2 _ _ _ HR3.out; have n3 : w3.cell? ⟨w.heap.size, 3, none⟩ = some (.slice AV nV dV) := cell_of_row _ _ 3 _ _ _ HR3.out; have k2 : w3.cell? ⟨w.heap.size + 1, 2, none⟩ = some (.slice BK mK eK) := cell_of_row _ _ 2 _ _ _ HR4.out; have k3 : w3.cell? ⟨w.heap.size + 1, 3, none⟩ = some (.slice BV mV eV) := cell_of_row _ _ 3 _ _ _ HR4.out; clear hb3)
            | (go_at_call 26; refine (HC2.out _ HB3.out).mono ?_; rintro e w5 ⟨rfl, hb5⟩; have HB5 := Lib.hid (HB3.out.trans (hb5.mono HB3.out.size)); have HR5 := Lib.hid ((hb5.block _ (row_lt HR3.out)).trans HR3.out); have HR6 := Lib.hid ((hb5.block _ (row_lt HR4.out)).trans HR4.out); have n5 : w5.cell? ⟨w.heap.size, 2, none⟩ = some (.slice AK nK dK) := cell_of_row _ _ 2 _ _ _ HR5.out; clear hb5))
          go_ret
          exact ⟨by rw [HX.out]; rfl, HB5.out⟩
        · rw [hq2] at HC2 HR
          have HX := Lib.hid (show R = eqL eqK K K' by rw [← HR.out]; simp [hkd, hlen])
          have HLEN := Lib.hid hlen
          clear hq hq2 HR hkd hlen
          go_enter Tryz.func11, Tryz.ntmps11
          go_wp2_with (first
            | (go_at_call 25; refine (HC1.out _ HS0.out).mono ?_; rintro e w3 ⟨rfl, hb3⟩; have HB3 := Lib.hid (HS0.out.trans (hb3.mono HS0.out.size)); have HR3 := Lib.hid ((hb3.block _ (row_lt HR1.out)).trans HR1.out); have HR4 := Lib.hid ((hb3.block _ (row_lt HR2.out)).trans HR2.out); have n2 : w3.cell? ⟨w.heap.size, 2, none⟩ = some (.slice AK nK dK) := cell_of_row _ _ 2 _ _ _ HR3.out; have n3 : w3.cell? ⟨w.heap.size, 3, none⟩ = some (.slice AV nV dV) := cell_of_row _ _ 3 _ _ _ HR3.out; have k2 : w3.cell? ⟨w.heap.size + 1, 2, none⟩ = some (.slice BK mK eK) := cell_of_row _ _ 2 _ _ _ HR4.out; have k3 : w3.cell? ⟨w.heap.size + 1, 3, none⟩ = some (.slice BV mV eV) := cell_of_row _ _ 3 _ _ _ HR4.out; clear hb3)
            | (go_at_call 26; refine (HC2.out _ HB3.out).mono ?_; rintro e w5 ⟨rfl, hb5⟩; have HB5 := Lib.hid (HB3.out.trans (hb5.mono HB3.out.size)); have HR5 := Lib.hid ((hb5.block _ (row_lt HR3.out)).trans HR3.out); have HR6 := Lib.hid ((hb5.block _ (row_lt HR4.out)).trans HR4.out); have n5 : w5.cell? ⟨w.heap.size, 2, none⟩ = some (.slice AK nK dK) := cell_of_row _ _ 2 _ _ _ HR5.out; clear hb5))
          go_loopw [39] (fun v wr => ∃ i : Nat, i ≤ nK ∧ v = .int .i64 i ∧ Hid (K.take i = K'.take i) ∧ Hid (Below w5.heap.size w5 wr)) (fun v _ => nK - (intOf v).toNat)
          case atStart => exact ⟨0, Nat.zero_le _, by go_num, rfl, Below.refl _ _⟩
          case round =>
            obtain ⟨i, hi, rfl, htk, hbel⟩ := hrel
            have HBE := Lib.hid (HB5.out.trans ((Hid.out hbel).mono HB5.out.size))
            by_cases hlt : i < nK
            · have hlm : i < mK := by have := HLEN.out; omega
              obtain ⟨x, hx⟩ : ∃ x, K[i]? = some x := ⟨_, List.getElem?_eq_getElem (by rw [← HK.out]; exact hlt)⟩
              obtain ⟨y, hy⟩ : ∃ y, K'[i]? = some y := ⟨_, List.getElem?_eq_getElem (by rw [← HM.out]; exact hlm)⟩
              have HXL := Lib.hid (HWK.out x (List.mem_of_getElem? hx))
              have HYL := Lib.hid (HVK.out y (List.mem_of_getElem? hy))
              obtain ⟨b, o, hAe, hb, hr⟩ := (HLK.out.below HBE.out) i x hx
              obtain ⟨b', o', hAe', hb', hr'⟩ := (HLM.out.below HBE.out) i y hy
              have HRX := Lib.hid hr
              have HRY := Lib.hid hr'
              have HBX := Lib.hid (Nat.lt_of_lt_of_le hb HBE.out.size)
              have HBY := Lib.hid (Nat.lt_of_lt_of_le hb' HBE.out.size)
              have HXX := Lib.hid hx
              have HYY := Lib.hid hy
              clear hr hr' hx hy hb hb'
              subst hAe hAe'
              have HN2 := Lib.hid (show wr.cell? ⟨w.heap.size, 2, none⟩ = some (.slice (some ⟨b, o, none⟩) nK dK) from cell_of_row _ _ 2 _ _ _ (((Hid.out hbel).block _ (row_lt HR5.out)).trans HR5.out))
              have HK2 := Lib.hid (show wr.cell? ⟨w.heap.size + 1, 2, none⟩ = some (.slice (some ⟨b', o', none⟩) mK eK) from cell_of_row _ _ 2 _ _ _ (((Hid.out hbel).block _ (row_lt HR6.out)).trans HR6.out))
              have HL1 := Lib.hid (show w.heap.size < wr.heap.size from Nat.lt_of_lt_of_le (row_lt HR5.out) (Hid.out hbel).size)
              have HL2 := Lib.hid (show w.heap.size + 1 < wr.heap.size from Nat.lt_of_lt_of_le (row_lt HR6.out) (Hid.out hbel).size)
              have heq := fun w => eq_kid x y HXL.out HYL.out w
              have hgd := guardK
              obtain ⟨q, hq⟩ : ∃ q, eqK x y = q := ⟨_, rfl⟩
              rw [hq] at heq
              have HQ := Lib.hid hq
              clear hq
              go_wp2_with fail
              refine wp_region_G (fun w' => Below wr.heap.size wr w') (by kernel_rfl) (by kernel_rfl) (Below.refl _ _).drew ?_
              refine wpG_val (.pointer (some ⟨w.heap.size, 2, none⟩)) rfl (by rfl) (fun w' hS => by go_simp) ?_
              simp only [List.setIfInBounds_toArray, List.set_cons_zero, List.set_cons_succ]
              refine wpG_val (.slice (some ⟨b, o, none⟩) nK dK) rfl (by rfl) (fun w' hS => by have c := (hS.cell (p := ⟨w.heap.size, 2, none⟩) HL1.out).trans HN2.out; go_simp) ?_
              simp only [List.setIfInBounds_toArray, List.set_cons_zero, List.set_cons_succ]
              refine wpG_val (.int .i64 i) rfl (by rfl) (fun w' hS => by go_simp) ?_
              simp only [List.setIfInBounds_toArray, List.set_cons_zero, List.set_cons_succ]
              refine wpG_val (.pointer (some ⟨b, o + i * 34, none⟩)) rfl (by rfl) (fun w' hS => by go_simp) ?_
              simp only [List.setIfInBounds_toArray, List.set_cons_zero, List.set_cons_succ]
              refine wpG_val (.agg (ecK x).toArray) rfl (by rfl) (fun w' hS => load_run 55 (.tmp 45) rfl b (o + i * 34) rfl (ecK x) _ (range_below HRX.out HBX.out hS) Tryz.underlying55 rfl (infoKs x)) ?_
              simp only [List.setIfInBounds_toArray, List.set_cons_zero, List.set_cons_succ]
              refine wpG_val (.pointer (some ⟨w.heap.size + 1, 2, none⟩)) rfl (by rfl) (fun w' hS => by go_simp) ?_
              simp only [List.setIfInBounds_toArray, List.set_cons_zero, List.set_cons_succ]
              refine wpG_val (.slice (some ⟨b', o', none⟩) mK eK) rfl (by rfl) (fun w' hS => by have c := (hS.cell (p := ⟨w.heap.size + 1, 2, none⟩) HL2.out).trans HK2.out; go_simp) ?_
              simp only [List.setIfInBounds_toArray, List.set_cons_zero, List.set_cons_succ]
              refine wpG_val (.int .i64 i) rfl (by rfl) (fun w' hS => by go_simp) ?_
              simp only [List.setIfInBounds_toArray, List.set_cons_zero, List.set_cons_succ]
              refine wpG_val (.pointer (some ⟨b', o' + i * 34, none⟩)) rfl (by rfl) (fun w' hS => by go_simp) ?_
              simp only [List.setIfInBounds_toArray, List.set_cons_zero, List.set_cons_succ]
              refine wpG_val (.agg (ecK y).toArray) rfl (by rfl) (fun w' hS => load_run 55 (.tmp 50) rfl b' (o' + i * 34) rfl (ecK y) _ (range_below HRY.out HBY.out hS) Tryz.underlying55 rfl (infoKs y)) ?_
              simp only [List.setIfInBounds_toArray, List.set_cons_zero, List.set_cons_succ]
              refine wpG_val (.bool (!q)) rfl (by rfl) (fun w' hS => by go_simp) ?_
              simp only [List.setIfInBounds_toArray, List.set_cons_zero, List.set_cons_succ]
              refine wpG_nil ?_
              intro w9 hS9
              have HB2 := Lib.hid ((Hid.out hbel).trans (hS9.mono (Hid.out hbel).size))
              clear hS9 hbel heq hgd
              cases q
              · have HF := Lib.hid (eqL_no eqK_iff (A := K) (B := K') fun e => by
                  have h1 := HYY.out
                  rw [← e, HXX.out] at h1
                  cases h1
                  have h2 := (eqK_iff x x).2 rfl
                  rw [HQ.out] at h2
                  cases h2)
                clear htk
                go_wp2
                go_ret
                exact ⟨by rw [HX.out, HF.out]; rfl, HB5.out.trans (HB2.out.mono HB5.out.size)⟩
              · have HT := Lib.hid (take_same (Hid.out htk) HXX.out (((eqK_iff x y).1 HQ.out) ▸ HYY.out))
                clear htk
                go_wp2
                exact ⟨⟨i + 1, by omega, by go_num, HT.out, HB2.out⟩, by simp [intOf] <;> omega⟩
            · have HT := Lib.hid (show eqL eqK K K' = true from (eqL_iff eqK_iff).2 (by
                have h := Hid.out htk
                rwa [List.take_of_length_le (by rw [← HK.out]; omega), List.take_of_length_le (by rw [← HM.out, ← HLEN.out]; omega)] at h))
              clear hbel
              go_wp2
              go_ret
              exact ⟨by rw [HX.out, HT.out]; rfl, HBE.out⟩
      · have q2 : ((nK : Int) != (mK : Int)) = true := by rw [bne_iff_ne]; omega
        have HX := Lib.hid (show R = false by rw [← HR.out]; simp [hlen])
        clear hq HR hkd hlen
        go_enter Tryz.func11, Tryz.ntmps11
        go_wp2_with (first
          | (go_at_call 25; refine (HC1.out _ HS0.out).mono ?_; rintro e w3 ⟨rfl, hb3⟩; have HB3 := Lib.hid (HS0.out.trans (hb3.mono HS0.out.size)); have HR3 := Lib.hid ((hb3.block _ (row_lt HR1.out)).trans HR1.out); have HR4 := Lib.hid ((hb3.block _ (row_lt HR2.out)).trans HR2.out); have n2 : w3.cell? ⟨w.heap.size, 2, none⟩ = some (.slice AK nK dK) := cell_of_row _ _ 2 _ _ _ HR3.out; have n3 : w3.cell? ⟨w.heap.size, 3, none⟩ = some (.slice AV nV dV) := cell_of_row _ _ 3 _ _ _ HR3.out; have k2 : w3.cell? ⟨w.heap.size + 1, 2, none⟩ = some (.slice BK mK eK) := cell_of_row _ _ 2 _ _ _ HR4.out; have k3 : w3.cell? ⟨w.heap.size + 1, 3, none⟩ = some (.slice BV mV eV) := cell_of_row _ _ 3 _ _ _ HR4.out; clear hb3)
          | (go_at_call 26; refine (HC2.out _ HB3.out).mono ?_; rintro e w5 ⟨rfl, hb5⟩; have HB5 := Lib.hid (HB3.out.trans (hb5.mono HB3.out.size)); have HR5 := Lib.hid ((hb5.block _ (row_lt HR3.out)).trans HR3.out); have HR6 := Lib.hid ((hb5.block _ (row_lt HR4.out)).trans HR4.out); have n5 : w5.cell? ⟨w.heap.size, 2, none⟩ = some (.slice AK nK dK) := cell_of_row _ _ 2 _ _ _ HR5.out; clear hb5))
        go_ret
        exact ⟨by rw [HX.out]; rfl, HB3.out⟩
  · have q1 : ((kd : Int) != (kd' : Int)) = true := by rw [bne_iff_ne]; omega
    have HX := Lib.hid (show R = false by rw [← HR.out]; simp [hkd])
    clear HR hkd
    go_enter Tryz.func11, Tryz.ntmps11
    go_wp2_with (first
      | (go_at_call 25; refine (HC1.out _ HS0.out).mono ?_; rintro e w3 ⟨rfl, hb3⟩; have HB3 := Lib.hid (HS0.out.trans (hb3.mono HS0.out.size)); have HR3 := Lib.hid ((hb3.block _ (row_lt HR1.out)).trans HR1.out); have HR4 := Lib.hid ((hb3.block _ (row_lt HR2.out)).trans HR2.out); have n2 : w3.cell? ⟨w.heap.size, 2, none⟩ = some (.slice AK nK dK) := cell_of_row _ _ 2 _ _ _ HR3.out; have n3 : w3.cell? ⟨w.heap.size, 3, none⟩ = some (.slice AV nV dV) := cell_of_row _ _ 3 _ _ _ HR3.out; have k2 : w3.cell? ⟨w.heap.size + 1, 2, none⟩ = some (.slice BK mK eK) := cell_of_row _ _ 2 _ _ _ HR4.out; have k3 : w3.cell? ⟨w.heap.size + 1, 3, none⟩ = some (.slice BV mV eV) := cell_of_row _ _ 3 _ _ _ HR4.out; clear hb3)
      | (go_at_call 26; refine (HC2.out _ HB3.out).mono ?_; rintro e w5 ⟨rfl, hb5⟩; have HB5 := Lib.hid (HB3.out.trans (hb5.mono HB3.out.size)); have HR5 := Lib.hid ((hb5.block _ (row_lt HR3.out)).trans HR3.out); have HR6 := Lib.hid ((hb5.block _ (row_lt HR4.out)).trans HR4.out); have n5 : w5.cell? ⟨w.heap.size, 2, none⟩ = some (.slice AK nK dK) := cell_of_row _ _ 2 _ _ _ HR5.out; clear hb5))
    go_ret
    exact ⟨by rw [HX.out]; rfl, HS0.out⟩
end Go.Proofs.YtnfcgifkghegjaaGreatDoor.Nd
