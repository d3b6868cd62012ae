/- Contract of slices.SortFunc at one or two superblocks, and at none. -/
import Derived.Test.YtlchjohaacbkpaaGreatDoorSsD
namespace Go.Proofs.YtlchjohaacbkpaaGreatDoor.Ss
set_option linter.unusedVariables false
set_option linter.unusedSimpArgs false
open Go.ChangeShapes Go.WideShapes Go.ChangeAt Go.RowKit
open Ar Rg St
set_option maxRecDepth 100000 in
theorem len64_0 (w : World) : Calls Tryz.prog 203 #[.int .u64 0] w fun e w' => (∃ l : Int, e = .returned (.int .i64 l)) ∧ w = w' := by
  go_enter Tryz.func203, Tryz.ntmps203
  go_wp2
  go_ret
  exact ⟨⟨_, rfl⟩, rfl⟩
set_option maxRecDepth 100000 in
theorem len64_1 (w : World) : Calls Tryz.prog 203 #[.int .u64 1] w fun e w' => (∃ l : Int, e = .returned (.int .i64 l)) ∧ w = w' := by
  go_enter Tryz.func203, Tryz.ntmps203
  go_wp2
  go_ret
  exact ⟨⟨_, rfl⟩, rfl⟩
set_option maxRecDepth 100000 in
theorem len64_2 (w : World) : Calls Tryz.prog 203 #[.int .u64 2] w fun e w' => (∃ l : Int, e = .returned (.int .i64 l)) ∧ w = w' := by
  go_enter Tryz.func203, Tryz.ntmps203
  go_wp2
  go_ret
  exact ⟨⟨_, rfl⟩, rfl⟩
theorem len_few (n : Nat) (hn : n ≤ 2) (w : World) : Calls Tryz.prog 173 #[.int .u64 n] w fun e w' => (∃ l : Int, e = .returned (.int .i64 l)) ∧ w = w' := by
  rcases (show n = 0 ∨ n = 1 ∨ n = 2 by omega) with rfl | rfl | rfl
  · go_enter Tryz.func173, Tryz.ntmps173
    go_wp2_with (go_at_call 203; refine (len64_0 _).mono ?_; rintro e w' ⟨⟨l, rfl⟩, rfl⟩)
    go_ret
    exact ⟨⟨_, rfl⟩, rfl⟩
  · go_enter Tryz.func173, Tryz.ntmps173
    go_wp2_with (go_at_call 203; refine (len64_1 _).mono ?_; rintro e w' ⟨⟨l, rfl⟩, rfl⟩)
    go_ret
    exact ⟨⟨_, rfl⟩, rfl⟩
  · go_enter Tryz.func173, Tryz.ntmps173
    go_wp2_with (go_at_call 203; refine (len64_2 _).mono ?_; rintro e w' ⟨⟨l, rfl⟩, rfl⟩)
    go_ret
    exact ⟨⟨_, rfl⟩, rfl⟩
/-- where the list has at most twelve, it is the insertion alone -/
theorem pdq_any (A : Option Addr) (N cap : Nat) (hN : N ≤ 12) (l : Int) (F : Value) (w : World) (R : World → Prop)
    (HI : Calls Tryz.prog 194 #[.slice A N cap, .int .i64 0, .int .i64 N, F] w fun e w' => e = .returned (.tuple #[]) ∧ R w') :
    Calls Tryz.prog 172 #[.slice A N cap, .int .i64 0, .int .i64 N, .int .i64 l, F] w fun e w' => e = .returned (.tuple #[]) ∧ R w' := by
  have H := Lib.hid HI
  have d : decide ((N : Int) ≤ 12) = true := by simp; omega
  clear HI
  go_enter Tryz.func172, Tryz.ntmps172
  go_wp2_with fail
  go_loopw [1, 2] (fun v u wr => v = .int .i64 0 ∧ u = .int .i64 N ∧ wr = w) (fun _ _ _ => 0)
  case atStart => exact ⟨rfl, rfl, rfl⟩
  case round =>
    obtain ⟨rfl, rfl, rfl⟩ := hrel
    go_wp2_with fail
    refine H.out.mono ?_
    rintro e w1 ⟨rfl, hR⟩
    have HR := Lib.hid hR
    clear hR
    go_wp2
    first | go_end0 | (simp only [Exit.inBlock, Exit.then]; refine bodyPost_ret (results_none rfl _ _ _) rfl ?_) | refine bodyPost_ret (results_none rfl _ _ _) rfl ?_
    exact ⟨rfl, HR.out⟩
theorem sort_any (A : Option Addr) (N cap : Nat) (hN : N ≤ 2) (w : World) (R : World → Prop)
    (HI : Calls Tryz.prog 194 #[.slice A N cap, .int .i64 0, .int .i64 N, CMP] w fun e w' => e = .returned (.tuple #[]) ∧ R w') :
    Calls Tryz.prog 139 #[.slice A N cap, CMP] w fun e w' => e = .returned (.tuple #[]) ∧ R w' := by
  have HL := Lib.hid (len_few N hN)
  have HP := Lib.hid (fun l => pdq_any A N cap (by omega) l CMP w R HI)
  clear HI
  unfold CMP at HP ⊢
  go_enter Tryz.func139, Tryz.ntmps139
  go_wp2_with fail
  refine (HL.out _).mono ?_
  rintro e w1 ⟨⟨l, rfl⟩, rfl⟩
  go_wp2_with fail
  refine (HP.out _).mono ?_
  rintro e w1 ⟨rfl, hR⟩
  have HR := Lib.hid hR
  clear hR
  go_wp2
  first | go_end0 | (simp only [Exit.inBlock, Exit.then]; refine bodyPost_ret (results_none rfl _ _ _) rfl ?_) | refine bodyPost_ret (results_none rfl _ _ _) rfl ?_
  exact ⟨rfl, HR.out⟩
theorem sort_some (D : List Ch) (hS : 0 < D.length) (h2 : D.length ≤ 2) (g cap : Nat) (hL : D.length ≤ cap) (w : World) (hA : Arr enc 35 w g D) :
    Calls Tryz.prog 139 #[.slice (some ⟨g, 0, none⟩) D.length cap, CMP] w fun e w' => e = .returned (.tuple #[]) ∧ ∃ S', Arr enc 35 w' g S' ∧ S'.length = D.length ∧ Srt key lt S' ∧ Sm key D S' ∧ w.grownBy w' (some g) := by
  refine sort_any _ _ _ h2 w _ ((insertion_any [] D [] D (by simp) hS g cap _ rfl hL (by omega) w hA 0 _ (by simp) (by simp)).mono ?_)
  rintro e w' ⟨h, S', h1, h2, h3, h4, h5⟩
  exact ⟨h, S', by simpa using h1, h2, h3, h4, h5⟩
theorem insertion_none (A : Option Addr) (c : Nat) (F : Value) (w : World) : Calls Tryz.prog 194 #[.slice A (0 : Nat) c, .int .i64 0, .int .i64 (0 : Nat), F] w fun e w' => e = .returned (.tuple #[]) ∧ w = w' := by
  go_enter Tryz.func194, Tryz.ntmps194
  go_wp2_with fail
  go_loopw [8] (fun v wr => v = .int .i64 1 ∧ wr = w) (fun _ _ => 0)
  case atStart => exact ⟨by go_num, rfl⟩
  case round =>
    obtain ⟨rfl, rfl⟩ := hrel
    go_wp2
    first | go_end0 | (simp only [Exit.inBlock, Exit.then]; refine bodyPost_ret (results_none rfl _ _ _) rfl ?_) | refine bodyPost_ret (results_none rfl _ _ _) rfl ?_
    exact ⟨rfl, rfl⟩
theorem sort_none (A : Option Addr) (c : Nat) (w : World) : Calls Tryz.prog 139 #[.slice A (0 : Nat) c, CMP] w fun e w' => e = .returned (.tuple #[]) ∧ w = w' :=
  sort_any _ _ _ (by omega) w _ (insertion_none _ _ _ w)
end Go.Proofs.YtlchjohaacbkpaaGreatDoor.Ss
