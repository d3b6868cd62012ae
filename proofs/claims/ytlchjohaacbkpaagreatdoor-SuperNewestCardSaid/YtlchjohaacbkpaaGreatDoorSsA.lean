/- Superblocks as elements of 35 cells; the comparison of two of them: the greater generation first. -/
import Derived.Test.YtlchjohaacbkpaaGreatDoorSuN
import Derived.Test.YtlchjohaacbkpaaGreatDoorSortM
import Derived.LoopTactic
import Derived.OwnWalk
import Derived.BigQuiet
import Derived.WalkLawsBesides
import Derived.WalkSpells
import Derived.Lib.Hide
namespace Go.Proofs.YtlchjohaacbkpaaGreatDoor.Ss
set_option linter.unusedVariables false
set_option linter.unusedSimpArgs false
open Go.ChangeShapes Go.WideShapes Go.ChangeAt Go.RowKit
open Ar Rg
open Nd (fix fix_len fix_of u8s_cell)
open Pk (u8s u8s_length)
abbrev Ch := Sp.Su
/-- a superblock in a list: 35 cells, whatever its hash is -/
def enc (s : Ch) : List Value := .int .u32 s.Z :: .int .u64 s.G :: .int .u32 s.T :: u8s (fix s.hs)
theorem enc_len (x : Ch) : (enc x).length = 35 := by unfold enc; rw [List.length_cons, List.length_cons, List.length_cons, u8s_length, fix_len]
theorem enc_one (s : Ch) : ∀ u ∈ enc s, u.oneCell' = true := by
  intro u hu
  unfold enc at hu
  rcases List.mem_cons.1 hu with rfl | hu
  · rfl
  · rcases List.mem_cons.1 hu with rfl | hu
    · rfl
    · rcases List.mem_cons.1 hu with rfl | hu
      · rfl
      · exact u8s_cell _ u hu
theorem enc_of {s : Ch} (h : s.hs.length = 32) : enc s = Sp.esS s := by unfold enc Sp.esS; rw [fix_of h]
def key (c : Ch) : Nat := c.G
/-- the greater one stands first -/
def lt (a b : Nat) : Bool := decide (b < a)
theorem O : St.Ord lt := by
  refine ⟨fun a b h => ?_, fun a b c h h' => ?_, fun a b h h' => ?_⟩
  · simp [lt] at *; omega
  · simp [lt] at *; omega
  · simp [lt] at *; omega
def cn (a b : Nat) : Int := if a < b then -1 else if b < a then 1 else 0
def cf (x y : Ch) : Int := cn (key y) (key x)
theorem cf_lt (x y : Ch) : cf x y < 0 ↔ lt (key x) (key y) = true := by
  unfold cf cn lt
  rw [decide_eq_true_iff]
  split
  · simp [*]
  · split <;> simp [*]
theorem isNaN64 (a : Nat) (w : World) : Calls Tryz.prog 174 #[.int .u64 a] w fun e w' => e = .returned (.bool false) ∧ w = w' := by
  go_enter Tryz.func174, Tryz.ntmps174
  go_wp2
  go_ret
  exact ⟨by simp, rfl⟩
theorem compare64 (a b : Nat) (w : World) : Calls Tryz.prog 141 #[.int .u64 a, .int .u64 b] w fun e w' => e = .returned (.int .i64 (cn a b)) ∧ w = w' := by
  have HA := Lib.hid (isNaN64 a)
  have HB := Lib.hid (isNaN64 b)
  unfold cn
  by_cases h1 : a < b
  · have d1 : decide ((a : Int) < (b : Int)) = true := by simp; omega
    rw [if_pos h1]
    go_enter Tryz.func141, Tryz.ntmps141
    go_wp2_with fail
    refine (HA.out _).mono ?_
    rintro e w1 ⟨rfl, rfl⟩
    go_wp2_with fail
    refine (HB.out _).mono ?_
    rintro e w1 ⟨rfl, rfl⟩
    go_wp2
    go_ret
    exact ⟨rfl, rfl⟩
  · have d1 : decide ((a : Int) < (b : Int)) = false := by simp; omega
    rw [if_neg h1]
    by_cases h2 : b < a
    · have d2 : decide ((b : Int) < (a : Int)) = true := by simp; omega
      rw [if_pos h2]
      go_enter Tryz.func141, Tryz.ntmps141
      go_wp2_with fail
      refine (HA.out _).mono ?_
      rintro e w1 ⟨rfl, rfl⟩
      go_wp2_with fail
      refine (HB.out _).mono ?_
      rintro e w1 ⟨rfl, rfl⟩
      go_wp2
      go_ret
      exact ⟨rfl, rfl⟩
    · have d2 : decide ((b : Int) < (a : Int)) = false := by simp; omega
      rw [if_neg h2]
      go_enter Tryz.func141, Tryz.ntmps141
      go_wp2_with fail
      refine (HA.out _).mono ?_
      rintro e w1 ⟨rfl, rfl⟩
      go_wp2_with fail
      refine (HB.out _).mono ?_
      rintro e w1 ⟨rfl, rfl⟩
      go_wp2
      go_ret
      exact ⟨rfl, rfl⟩
theorem cmp_any (x y : Ch) (w : World) :
    Calls Tryz.prog 140 #[.agg (enc x).toArray, .agg (enc y).toArray] w fun e w' => e = .returned (.int .i64 (cf x y)) ∧ w.grownBy w' none := by
  have HC := Lib.hid (compare64 (key y) (key x))
  unfold cf
  have hx : (enc x).toArray[1]? = some (.int .u64 (key x)) := by simp [enc, key]
  have hy : (enc y).toArray[1]? = some (.int .u64 (key y)) := by simp [enc, key]
  generalize (enc x).toArray = C at *
  generalize (enc y).toArray = D at *
  have TB := Lib.hid (Sp.box2 w C D 44 44)
  have G : w.grownBy ((w.alloc (.cells C 44)).alloc (.cells D 44)) none := grown_trans (World.grownBy_alloc w _ none) (World.grownBy_alloc _ _ none)
  have HG := Lib.hid G
  clear G
  have c1 : ((w.alloc (.cells C 44)).alloc (.cells D 44)).cell? ⟨w.heap.size, 1, none⟩ = some (.int .u64 (key x)) := (cell_of_row _ _ 1 _ _ _ TB.out.1).trans hx
  have c2 : ((w.alloc (.cells C 44)).alloc (.cells D 44)).cell? ⟨w.heap.size + 1, 1, none⟩ = some (.int .u64 (key y)) := (cell_of_row _ _ 1 _ _ _ TB.out.2.1).trans hy
  clear TB hx hy
  go_enter Tryz.func140, Tryz.ntmps140
  go_wp2_with fail
  refine (HC.out _).mono ?_
  rintro e w1 ⟨rfl, rfl⟩
  go_wp2
  go_ret
  exact ⟨rfl, HG.out⟩
def CMP : Value := .func (.func 140) #[] #[]
theorem infoE : (Tryz.prog.info? 44).map (·.size) = some 35 := by kernel_rfl
section
variable {α : Type}
theorem set_mid (A B : List α) (x y : α) (i : Nat) (h : i = A.length) : (A ++ x :: B).set i y = A ++ y :: B := by
  subst h
  rw [List.set_append_right _ _ (Nat.le_refl _), Nat.sub_self, List.set_cons_zero]
theorem get_mid (A B : List α) (x : α) (i : Nat) (h : i = A.length) : (A ++ x :: B)[i]? = some x := by
  subst h
  rw [List.getElem?_append_right (Nat.le_refl _), Nat.sub_self]
  rfl
end
end Go.Proofs.YtlchjohaacbkpaaGreatDoor.Ss
