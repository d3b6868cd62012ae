/- sync.Once of a method value, asked for the first time: one goroutine. -/
import Derived.Test.YtlchjohaacbkpaaGreatDoorSuN
import Derived.Test.YtlchjohaacbkpaaGreatDoorRows
import Derived.WalkKit
import Derived.ProofKit
import Derived.Handy
import Derived.BigQuiet
import Derived.Deep.QuietTactic
import Derived.Deep.MidRow
import Derived.Tactics
import Derived.Tactics2
import Derived.Defers
import Derived.Laws.Pointers
import Derived.Laws.LoneSync
import Derived.Laws.NewBlocks
import Derived.RegionTactic
import Derived.RegionCalls
import Derived.ChangeAlike
import Derived.Outline
import Derived.Lib.Hide
namespace Go.Proofs.YtlchjohaacbkpaaGreatDoor.Sq
set_option linter.unusedVariables false
set_option linter.unusedSimpArgs false
open Go.ChangeShapes Go.WideShapes Go.ChangeAt Go.RowKit
theorem once_disable (w : World) : (callFunc 211 #[]).run Tryz.prog w = .ok (.value (.tuple #[])) w := run_call_mark0 Tryz.func211 (by kernel_rfl) (by kernel_rfl) (by kernel_rfl) .disable (by kernel_rfl) w
theorem once_enable (w : World) : (callFunc 213 #[]).run Tryz.prog w = .ok (.value (.tuple #[])) w := run_call_mark0 Tryz.func213 (by kernel_rfl) (by kernel_rfl) (by kernel_rfl) .enable (by kernel_rfl) w
theorem once_acquire (a : Addr) (w : World) : (callFunc 214 #[.pointer (some a)]).run Tryz.prog w = .ok (.value (.tuple #[])) w := run_call_marked Tryz.func214 (by kernel_rfl) (by kernel_rfl) (by kernel_rfl) .acquire (by kernel_rfl) a w
theorem once_release (a : Addr) (w : World) : (callFunc 216 #[.pointer (some a)]).run Tryz.prog w = .ok (.value (.tuple #[])) w := run_call_marked Tryz.func216 (by kernel_rfl) (by kernel_rfl) (by kernel_rfl) .releaseMerge (by kernel_rfl) a w
/-- '(*sync/atomic.Bool).Store(true)', entered as a deferred call -/
theorem store_deferred (a : Addr) (x : Value) (u : FrameMode) (w : World) (hc : w.cell? a = some x) (hz : w.frozen? a = false) :
    CallsD Tryz.prog 171 #[.pointer (some a), .bool true] u w fun e u' w' => u' = u ∧ (e = .returned (.tuple #[]) ∧ w' = w.drew.setCell a (.int .u32 1)) := by
  have hc' : w.drew.cell? a = some x := by go_simp
  have hz' : w.drew.frozen? a = false := by go_simp
  have hst := run_call_store (P := Tryz.prog) Tryz.func192 (by kernel_rfl) (by kernel_rfl) (by kernel_rfl) (by kernel_rfl) (k := .u32) (y := 1) hc' hz'
  go_enter_d Tryz.func171, Tryz.ntmps171
  go_wp2
  go_region_calls
  all_goals (go_end0; exact ⟨rfl, rfl⟩)
set_option maxRecDepth 100000 in
/-- '(*sync.Mutex).Unlock', entered as a deferred call, the lock held and nobody waiting -/
theorem unlock_deferred (a : Addr) (u : FrameMode) (w : World) (hc : w.cell? a = some (.int .i32 1)) (hz : w.frozen? a = false) :
    CallsD Tryz.prog 170 #[.pointer (some a)] u w fun e u' w' => u' = u ∧ (e = .returned (.tuple #[]) ∧ w' = w.setCell a (.int .i32 0)) := by
  have hd := once_disable
  have he := once_enable
  have hr := once_release
  have hadd := run_call_add (P := Tryz.prog) Tryz.func217 (by kernel_rfl) (by kernel_rfl) (by kernel_rfl) .i32 (by kernel_rfl) (y := -1) (s := 0) hc hz (by simp [go_sem]; rfl)
  have hcv0 := run_convert_to_unsafe (P := Tryz.prog) (src := 245) (dst := 211) Tryz.underlying245 Tryz.underlying211 (by kernel_rfl) hc
  have hcv1 := run_convert_to_unsafe (P := Tryz.prog) (src := 265) (dst := 211) Tryz.underlying265 Tryz.underlying211 (by kernel_rfl) hc
  go_enter_d Tryz.func170, Tryz.ntmps170
  go_wp2
  go_end0
  go_wp2
set_option maxRecDepth 100000 in
/-- '(*sync.Mutex).Lock', the lock free -/
theorem lock_free (a : Addr) (w : World) (hc : w.cell? a = some (.int .i32 0)) (hz : w.frozen? a = false) :
    Calls Tryz.prog 169 #[.pointer (some a)] w fun e w' => e = .returned (.tuple #[]) ∧ w' = w.setCell a (.int .i32 1) := by
  have hd := once_disable
  have he := once_enable
  have ha := once_acquire
  have hcas := run_call_cas_hit (P := Tryz.prog) Tryz.func212 (by kernel_rfl) (by kernel_rfl) (by kernel_rfl) .i32 (by kernel_rfl) (y := 1) hc hz
  have hc' : (w.setCell a (.int .i32 1)).cell? a = some (.int .i32 1) := World.cell?_setCell_same w a _ hc
  have hcv0 := run_convert_to_unsafe (P := Tryz.prog) (src := 245) (dst := 211) Tryz.underlying245 Tryz.underlying211 (by kernel_rfl) hc'
  have hcv1 := run_convert_to_unsafe (P := Tryz.prog) (src := 265) (dst := 211) Tryz.underlying265 Tryz.underlying211 (by kernel_rfl) hc'
  go_enter Tryz.func169, Tryz.ntmps169
  go_wp2
  first | go_end0 | (simp only [Exit.inBlock, Exit.then]; refine bodyPost_ret (results_none rfl _ _ _) rfl ?_) | refine bodyPost_ret (results_none rfl _ _ _) rfl ?_
  go_wp2
/-- the world behind the method, the once being marked and let go -/
def oncEnd (w1 : World) (g : Nat) : World := (w1.drew.setCell ⟨g, 2, none⟩ (.int .u32 1)).setCell ⟨g, 3, none⟩ (.int .i32 0)
def oncBeg (w : World) (g : Nat) : World := w.setCell ⟨g, 3, none⟩ (.int .i32 1)
/-- the once is held, and not marked -/
def OncHeld (w : World) (g : Nat) : Prop := (w.cell? ⟨g, 2, none⟩ = some (.int .u32 0) ∧ w.cell? ⟨g, 3, none⟩ = some (.int .i32 1)) ∧ w.frozen? ⟨g, 2, none⟩ = false ∧ w.frozen? ⟨g, 3, none⟩ = false
set_option maxRecDepth 100000 in
set_option maxHeartbeats 1600000 in
theorem slow_first (g : Nat) (w : World) (R : World → Prop) (h0 : w.cell? ⟨g, 2, none⟩ = some (.int .u32 0)) (h1 : w.cell? ⟨g, 3, none⟩ = some (.int .i32 0)) (f1 : w.frozen? ⟨g, 3, none⟩ = false)
    (hf : Calls Tryz.prog 100 #[.pointer (some ⟨g, 0, none⟩)] (oncBeg w g) fun e w' => e = .returned (.tuple #[]) ∧ OncHeld w' g ∧ R w') :
    Calls Tryz.prog 138 #[.pointer (some ⟨g, 2, none⟩), .func (.func 100) #[.pointer (some ⟨g, 0, none⟩)] #[]] w fun e w' => e = .returned (.tuple #[]) ∧ ∃ w1, R w1 ∧ w' = oncEnd w1 g := by
  have HF := Lib.hid hf
  clear hf
  have hl := run_call_load (P := Tryz.prog) Tryz.func168 (by kernel_rfl) (by kernel_rfl) (by kernel_rfl) .u32 (by kernel_rfl) (w := oncBeg w g) (a := ⟨g, 2, none⟩) (x := 0) ((World.cell?_setCell_other _ ⟨g, 3, none⟩ ⟨g, 2, none⟩ _ (by simp)).trans h0)
  have hnot : ∀ (x : Bool) (w : World), (Op.unary .not (.bool x)).run Tryz.prog w = .ok (.bool (!x)) w := fun _ _ => rfl
  go_enter_defers Tryz.func138, Tryz.ntmps138
  go_wp2_with (go_at_call 169; refine (lock_free ⟨g, 3, none⟩ _ (by go_simp) (by go_simp)).mono ?_; rintro e w' ⟨rfl, rfl⟩)
  change Calls _ _ _ (oncBeg w g) _
  go_at_call 137
  go_in
  go_wp2_with (first | (go_at_call 100; refine HF.out.mono ?_; rintro e w1 ⟨rfl, hk, hR⟩))
  obtain ⟨⟨k0, k1⟩, g0, g1⟩ := hk
  have HR := Lib.hid hR
  clear hR HF
  refine leaves_cons (f := 171) (args := #[.pointer (some ⟨g, 2, none⟩), .bool true]) (by simp) (by simp [go_sem]) ?_
  refine (store_deferred ⟨g, 2, none⟩ (.int .u32 0) .returning _ k0 g0).mono ?_
  rintro e u' w'' ⟨rfl, rfl, rfl⟩
  refine leaves_cons (f := 170) (args := #[.pointer (some ⟨g, 3, none⟩)]) (by simp [settle]) (by simp [go_sem]) ?_
  refine (unlock_deferred ⟨g, 3, none⟩ _ _ ?_ (by simp [g1])).mono ?_
  · refine (World.cell?_setCell_other _ ⟨g, 2, none⟩ ⟨g, 3, none⟩ _ (by simp)).trans ?_
    rw [World.cell?_drew]
    exact k1
  rintro e u' w'' ⟨rfl, rfl, rfl⟩
  simp [Leaves, settle, results, Tryz.results138]
  exact ⟨w1, HR.out, rfl⟩
set_option maxRecDepth 100000 in
set_option maxHeartbeats 1600000 in
theorem do_first (g : Nat) (w : World) (R : World → Prop) (h0 : w.cell? ⟨g, 2, none⟩ = some (.int .u32 0)) (h1 : w.cell? ⟨g, 3, none⟩ = some (.int .i32 0)) (f1 : w.frozen? ⟨g, 3, none⟩ = false)
    (hf : Calls Tryz.prog 100 #[.pointer (some ⟨g, 0, none⟩)] (oncBeg w g) fun e w' => e = .returned (.tuple #[]) ∧ OncHeld w' g ∧ R w') :
    Calls Tryz.prog 99 #[.pointer (some ⟨g, 2, none⟩), .func (.func 100) #[.pointer (some ⟨g, 0, none⟩)] #[]] w fun e w' => e = .returned (.tuple #[]) ∧ ∃ w1, R w1 ∧ w' = oncEnd w1 g := by
  have hnot : ∀ (x : Bool) (w : World), (Op.unary .not (.bool x)).run Tryz.prog w = .ok (.bool (!x)) w := fun _ _ => rfl
  have hl := run_call_load (P := Tryz.prog) Tryz.func168 (by kernel_rfl) (by kernel_rfl) (by kernel_rfl) .u32 (by kernel_rfl) h0
  have HS := Lib.hid (slow_first g w R h0 h1 f1 hf)
  clear hf
  go_enter Tryz.func99, Tryz.ntmps99
  go_wp2_with (first | (go_at_call 138; refine HS.out.mono ?_; rintro e w' ⟨rfl, w1, hR, rfl⟩) | (go_at_call 137; go_in))
  go_end0
  exact ⟨rfl, w1, hR, rfl⟩
end Go.Proofs.YtlchjohaacbkpaaGreatDoor.Sq
