/- Letters of package inode, made when they are first asked for: sync.Once, one goroutine. -/
import Derived.Test.YtngcogjjcidccaaGreatKyM
import Derived.Test.YtngcogjjcidccaaGreatRows
import Derived.WalkKit
import Derived.ProofKit
import Derived.Handy
import Derived.BigQuiet
import Derived.Deep.QuietTactic
import Derived.Deep.MidRow
import Derived.Tactics
import Derived.Tactics2
import Derived.Defers
import Derived.Laws.Pointers
import Derived.Laws.LoneSync
import Derived.Laws.NewBlocks
import Derived.RegionTactic
import Derived.RegionCalls
import Derived.ChangeAlike
import Derived.Outline
import Derived.Lib.Hide
namespace Go.Proofs.YtngcogjjcidccaaGreat.Ino
set_option linter.unusedVariables false
set_option linter.unusedSimpArgs false
open Go.ChangeShapes Go.WideShapes Go.ChangeAt Go.RowKit
open Pk (bs)
theorem once_disable (w : World) : (callFunc 96 #[]).run Tryz.prog w = .ok (.value (.tuple #[])) w := run_call_mark0 Tryz.func96 (by kernel_rfl) (by kernel_rfl) (by kernel_rfl) .disable (by kernel_rfl) w
theorem once_enable (w : World) : (callFunc 98 #[]).run Tryz.prog w = .ok (.value (.tuple #[])) w := run_call_mark0 Tryz.func98 (by kernel_rfl) (by kernel_rfl) (by kernel_rfl) .enable (by kernel_rfl) w
theorem once_acquire (a : Addr) (w : World) : (callFunc 99 #[.pointer (some a)]).run Tryz.prog w = .ok (.value (.tuple #[])) w := run_call_marked Tryz.func99 (by kernel_rfl) (by kernel_rfl) (by kernel_rfl) .acquire (by kernel_rfl) a w
theorem once_release (a : Addr) (w : World) : (callFunc 101 #[.pointer (some a)]).run Tryz.prog w = .ok (.value (.tuple #[])) w := run_call_marked Tryz.func101 (by kernel_rfl) (by kernel_rfl) (by kernel_rfl) .releaseMerge (by kernel_rfl) a w
/-- '(*sync/atomic.Bool).Store(true)', entered as a deferred call -/
theorem store_deferred (a : Addr) (x : Value) (u : FrameMode) (w : World) (hc : w.cell? a = some x) (hz : w.frozen? a = false) :
    CallsD Tryz.prog 72 #[.pointer (some a), .bool true] u w fun e u' w' => u' = u ∧ (e = .returned (.tuple #[]) ∧ w' = w.drew.setCell a (.int .u32 1)) := by
  have hc' : w.drew.cell? a = some x := by go_simp
  have hz' : w.drew.frozen? a = false := by go_simp
  have hst := run_call_store (P := Tryz.prog) Tryz.func85 (by kernel_rfl) (by kernel_rfl) (by kernel_rfl) (by kernel_rfl) (k := .u32) (y := 1) hc' hz'
  go_enter_d Tryz.func72, Tryz.ntmps72
  go_wp2
  go_region_calls
  all_goals (go_end0; exact ⟨rfl, rfl⟩)
set_option maxRecDepth 100000 in
/-- '(*sync.Mutex).Unlock', entered as a deferred call, the lock held and nobody waiting -/
theorem unlock_deferred (a : Addr) (u : FrameMode) (w : World) (hc : w.cell? a = some (.int .i32 1)) (hz : w.frozen? a = false) :
    CallsD Tryz.prog 71 #[.pointer (some a)] u w fun e u' w' => u' = u ∧ (e = .returned (.tuple #[]) ∧ w' = w.setCell a (.int .i32 0)) := by
  have hd := once_disable
  have he := once_enable
  have hr := once_release
  have hadd := run_call_add (P := Tryz.prog) Tryz.func102 (by kernel_rfl) (by kernel_rfl) (by kernel_rfl) .i32 (by kernel_rfl) (y := -1) (s := 0) hc hz (by simp [go_sem]; rfl)
  have hcv0 := run_convert_to_unsafe (P := Tryz.prog) (src := 129) (dst := 142) Tryz.underlying129 Tryz.underlying142 (by kernel_rfl) hc
  have hcv1 := run_convert_to_unsafe (P := Tryz.prog) (src := 138) (dst := 142) Tryz.underlying138 Tryz.underlying142 (by kernel_rfl) hc
  go_enter_d Tryz.func71, Tryz.ntmps71
  go_wp2
  go_end0
  go_wp2
set_option maxRecDepth 100000 in
/-- '(*sync.Mutex).Lock', the lock free -/
theorem lock_free (a : Addr) (w : World) (hc : w.cell? a = some (.int .i32 0)) (hz : w.frozen? a = false) :
    Calls Tryz.prog 70 #[.pointer (some a)] w fun e w' => e = .returned (.tuple #[]) ∧ w' = w.setCell a (.int .i32 1) := by
  have hd := once_disable
  have he := once_enable
  have ha := once_acquire
  have hcas := run_call_cas_hit (P := Tryz.prog) Tryz.func97 (by kernel_rfl) (by kernel_rfl) (by kernel_rfl) .i32 (by kernel_rfl) (y := 1) hc hz
  have hc' : (w.setCell a (.int .i32 1)).cell? a = some (.int .i32 1) := World.cell?_setCell_same w a _ hc
  have hcv0 := run_convert_to_unsafe (P := Tryz.prog) (src := 129) (dst := 142) Tryz.underlying129 Tryz.underlying142 (by kernel_rfl) hc'
  have hcv1 := run_convert_to_unsafe (P := Tryz.prog) (src := 138) (dst := 142) Tryz.underlying138 Tryz.underlying142 (by kernel_rfl) hc'
  go_enter Tryz.func70, Tryz.ntmps70
  go_wp2
  first | go_end0 | (simp only [Exit.inBlock, Exit.then]; refine bodyPost_ret (results_none rfl _ _ _) rfl ?_) | refine bodyPost_ret (results_none rfl _ _ _) rfl ?_
  go_wp2
/-- a kind's letter -/
def ltB (K : Nat) : ByteArray := bs (lt K)
def nmL : List Value := [.string ByteArray.empty, .string (ltB 1), .string (ltB 2), .string (ltB 3), .string (ltB 4)]
def emL : List Value := List.replicate 5 (.string ByteArray.empty)
def lRow (b : Bool) : List Value := if b then .int .u32 1 :: .int .i32 0 :: .int .u32 0 :: nmL else .int .u32 0 :: .int .i32 0 :: .int .u32 0 :: emL
theorem lRow_len (b : Bool) : (lRow b).length = 8 := by cases b <;> rfl
/-- the letters lie in block g, made or not -/
def LtAt (w : World) (g : Nat) (b : Bool) : Prop := w.rangeAt g 0 (lRow b) ∧ ∀ i, i < 8 → w.frozen? ⟨g, i, none⟩ = false
theorem LtAt.get {w : World} {g : Nat} {b : Bool} (h : LtAt w g b) (i : Nat) {v : Value} (hv : (lRow b)[i]? = some v) : w.cell? ⟨g, i, none⟩ = some v := by
  have := h.1 i v hv
  rwa [Nat.zero_add] at this
theorem LtAt.there {w : World} {g : Nat} {b : Bool} (h : LtAt w g b) : w.there g 3 5 := fun j hj => by
  obtain ⟨v, hv⟩ : ∃ v, (lRow b)[3 + j]? = some v := ⟨_, List.getElem?_eq_getElem (by rw [lRow_len]; omega)⟩
  exact ⟨by rw [h.get (3 + j) hv]; rfl, h.2 _ (by omega)⟩
/-- the world behind the letters' making -/
def filled (w : World) (g : Nat) : World := ((((w.setCell ⟨g, 3, none⟩ (.string ⟨#[]⟩)).setCell ⟨g, 4, none⟩ (.string ⟨#[105]⟩)).setCell ⟨g, 5, none⟩ (.string ⟨#[100]⟩)).setCell ⟨g, 6, none⟩ (.string ⟨#[99]⟩)).setCell ⟨g, 7, none⟩ (.string ⟨#[120]⟩)
theorem fill_any (g : Nat) (x3 x4 x5 x6 x7 : Value) (w : World) (c3 : w.cell? ⟨g, 3, none⟩ = some x3) (c4 : w.cell? ⟨g, 4, none⟩ = some x4) (c5 : w.cell? ⟨g, 5, none⟩ = some x5) (c6 : w.cell? ⟨g, 6, none⟩ = some x6) (c7 : w.cell? ⟨g, 7, none⟩ = some x7)
    (f3 : w.frozen? ⟨g, 3, none⟩ = false) (f4 : w.frozen? ⟨g, 4, none⟩ = false) (f5 : w.frozen? ⟨g, 5, none⟩ = false) (f6 : w.frozen? ⟨g, 6, none⟩ = false) (f7 : w.frozen? ⟨g, 7, none⟩ = false) :
    Calls Tryz.prog 94 #[.pointer (some ⟨g, 0, none⟩)] w fun e w' => e = .returned (.tuple #[]) ∧ w' = filled w g := by
  go_enter Tryz.func94, Tryz.ntmps94
  go_wp2
  go_end0
  exact ⟨rfl, rfl⟩
/-- the world behind the first asking -/
def onced (w : World) (g : Nat) : World := ((filled (w.setCell ⟨g, 1, none⟩ (.int .i32 1)) g).drew.setCell ⟨g, 0, none⟩ (.int .u32 1)).setCell ⟨g, 1, none⟩ (.int .i32 0)
theorem filled_get {w : World} {g i : Nat} {v : Value} (h : w.cell? ⟨g, i, none⟩ = some v) (hi : i < 3) : (filled w g).cell? ⟨g, i, none⟩ = some v := by
  unfold filled
  rw [World.cell?_setCell_other _ _ _ _ (by simp <;> omega), World.cell?_setCell_other _ _ _ _ (by simp <;> omega), World.cell?_setCell_other _ _ _ _ (by simp <;> omega), World.cell?_setCell_other _ _ _ _ (by simp <;> omega), World.cell?_setCell_other _ _ _ _ (by simp <;> omega)]
  exact h
theorem filled_fro {w : World} {g : Nat} {a : Addr} : (filled w g).frozen? a = w.frozen? a := by simp [filled]
set_option maxRecDepth 100000 in
set_option maxHeartbeats 1600000 in
theorem slow_any (g : Nat) (w : World) (h : LtAt w g false) :
    Calls Tryz.prog 53 #[.pointer (some ⟨g, 0, none⟩), .func (.func 94) #[.pointer (some ⟨g, 0, none⟩)] #[]] w fun e w' => e = .returned (.tuple #[]) ∧ w' = onced w g := by
  have h0 : w.cell? ⟨g, 0, none⟩ = some (.int .u32 0) := h.get 0 rfl
  have h1 : w.cell? ⟨g, 1, none⟩ = some (.int .i32 0) := h.get 1 rfl
  have c : ∀ i, 3 ≤ i → i < 8 → (w.setCell ⟨g, 1, none⟩ (.int .i32 1)).cell? ⟨g, i, none⟩ = some (.string ByteArray.empty) := by
    intro i h3 h8
    rw [World.cell?_setCell_other _ _ _ _ (by simp <;> omega)]
    exact h.get i (by rcases (show i = 3 ∨ i = 4 ∨ i = 5 ∨ i = 6 ∨ i = 7 by omega) with rfl | rfl | rfl | rfl | rfl <;> rfl)
  have f0 := h.2 0 (by omega)
  have f1 := h.2 1 (by omega)
  have z : ∀ i, i < 8 → (w.setCell ⟨g, 1, none⟩ (.int .i32 1)).frozen? ⟨g, i, none⟩ = false := by
    intro i hi
    simp [h.2 i hi]
  have HF := Lib.hid (fill_any g _ _ _ _ _ (w.setCell ⟨g, 1, none⟩ (.int .i32 1)) (c 3 (by omega) (by omega)) (c 4 (by omega) (by omega)) (c 5 (by omega) (by omega)) (c 6 (by omega) (by omega)) (c 7 (by omega) (by omega)) (z 3 (by omega)) (z 4 (by omega)) (z 5 (by omega)) (z 6 (by omega)) (z 7 (by omega)))
  have k0 : (filled (w.setCell ⟨g, 1, none⟩ (.int .i32 1)) g).cell? ⟨g, 0, none⟩ = some (.int .u32 0) := filled_get (by rw [World.cell?_setCell_other _ _ _ _ (by simp)]; exact h0) (by omega)
  have k1 : (filled (w.setCell ⟨g, 1, none⟩ (.int .i32 1)) g).cell? ⟨g, 1, none⟩ = some (.int .i32 1) := filled_get (World.cell?_setCell_same _ _ _ h1) (by omega)
  have g0 : (filled (w.setCell ⟨g, 1, none⟩ (.int .i32 1)) g).frozen? ⟨g, 0, none⟩ = false := by rw [filled_fro]; exact z 0 (by omega)
  have g1 : (filled (w.setCell ⟨g, 1, none⟩ (.int .i32 1)) g).frozen? ⟨g, 1, none⟩ = false := by rw [filled_fro]; exact z 1 (by omega)
  have hl := run_call_load (P := Tryz.prog) Tryz.func69 (by kernel_rfl) (by kernel_rfl) (by kernel_rfl) .u32 (by kernel_rfl) (w := w.setCell ⟨g, 1, none⟩ (.int .i32 1)) (a := ⟨g, 0, none⟩) (x := 0) ((World.cell?_setCell_other _ ⟨g, 1, none⟩ ⟨g, 0, none⟩ _ (by simp)).trans h0)
  have hnot : ∀ (x : Bool) (w : World), (Op.unary .not (.bool x)).run Tryz.prog w = .ok (.bool (!x)) w := fun _ _ => rfl
  have K0 := Lib.hid k0
  have K1 := Lib.hid k1
  have G0 := Lib.hid g0
  have G1 := Lib.hid g1
  clear c z k0 k1 g0 g1 h
  go_enter_defers Tryz.func53, Tryz.ntmps53
  go_wp2_with (go_at_call 70; refine (lock_free ⟨g, 1, none⟩ _ (by go_simp) (by go_simp)).mono ?_; rintro e w' ⟨rfl, rfl⟩)
  go_wp2_with (first | (go_at_call 52; go_in) | (go_at_call 94; refine HF.out.mono ?_; rintro e w' ⟨rfl, rfl⟩))
  refine leaves_cons (f := 72) (args := #[.pointer (some ⟨g, 0, none⟩), .bool true]) (by simp) (by simp [go_sem]) ?_
  refine (store_deferred ⟨g, 0, none⟩ (.int .u32 0) .returning _ K0.out G0.out).mono ?_
  rintro e u' w'' ⟨rfl, rfl, rfl⟩
  refine leaves_cons (f := 71) (args := #[.pointer (some ⟨g, 1, none⟩)]) (by simp [settle]) (by simp [go_sem]) ?_
  refine (unlock_deferred ⟨g, 1, none⟩ _ _ ?_ (by simp [G1.out])).mono ?_
  · refine (World.cell?_setCell_other _ ⟨g, 0, none⟩ ⟨g, 1, none⟩ _ (by simp)).trans ?_
    rw [World.cell?_drew]
    exact K1.out
  rintro e u' w'' ⟨rfl, rfl, rfl⟩
  simp [Leaves, settle, results, Tryz.results53, onced]
theorem onced_get {w : World} {g : Nat} {b : Bool} (h : LtAt w g b) : LtAt (onced w g) g true := by
  have c : ∀ i, i < 8 → (w.cell? ⟨g, i, none⟩).isSome = true := fun i hi => by
    rw [h.get i (List.getElem?_eq_getElem (by rw [lRow_len]; exact hi))]; rfl
  refine ⟨?_, fun i hi => ?_⟩
  · intro i v hv
    rw [Nat.zero_add]
    have hi : i < 8 := by have := (List.getElem?_eq_some_iff.1 hv).1; rw [lRow_len] at this; exact this
    have key : ∀ (W : World) (j : Nat) (u : Value), (∀ i, i < 8 → (W.cell? ⟨g, i, none⟩).isSome = true) → ∀ i, i < 8 → ((W.setCell ⟨g, j, none⟩ u).cell? ⟨g, i, none⟩).isSome = true := by
      intro W j u hW i hi
      by_cases hj : j = i
      · subst hj
        obtain ⟨x, hx⟩ := Option.isSome_iff_exists.1 (hW j hi)
        rw [World.cell?_setCell_same _ _ _ hx]; rfl
      · rw [World.cell?_setCell_other _ _ _ _ (by simp [hj])]; exact hW i hi
    have put : ∀ (W : World) (j : Nat) (u : Value), (∀ i, i < 8 → (W.cell? ⟨g, i, none⟩).isSome = true) → j < 8 → (W.setCell ⟨g, j, none⟩ u).cell? ⟨g, j, none⟩ = some u := by
      intro W j u hW hj
      obtain ⟨x, hx⟩ := Option.isSome_iff_exists.1 (hW j hj)
      exact World.cell?_setCell_same _ _ _ hx
    have off : ∀ (W : World) (j : Nat) (u : Value), j ≠ i → (W.setCell ⟨g, j, none⟩ u).cell? ⟨g, i, none⟩ = W.cell? ⟨g, i, none⟩ := fun W j u hj => World.cell?_setCell_other _ _ _ _ (by simp [hj])
    have s1 := key w 1 (.int .i32 1) c
    have s2 := key _ 3 (.string ⟨#[]⟩) s1
    have s3 := key _ 4 (.string ⟨#[105]⟩) s2
    have s4 := key _ 5 (.string ⟨#[100]⟩) s3
    have s5 := key _ 6 (.string ⟨#[99]⟩) s4
    have s6 := key _ 7 (.string ⟨#[120]⟩) s5
    have s7 : ∀ i, i < 8 → ((filled (w.setCell ⟨g, 1, none⟩ (.int .i32 1)) g).drew.cell? ⟨g, i, none⟩).isSome = true := fun i hi => by rw [World.cell?_drew]; exact s6 i hi
    have s8 := key _ 0 (.int .u32 1) s7
    unfold onced
    rcases (show i = 0 ∨ i = 1 ∨ i = 2 ∨ i = 3 ∨ i = 4 ∨ i = 5 ∨ i = 6 ∨ i = 7 by omega) with rfl | rfl | rfl | rfl | rfl | rfl | rfl | rfl
    · rw [off _ 1 _ (by decide), put _ 0 _ s7 (by decide)]; exact hv
    · rw [put _ 1 _ s8 (by decide)]; exact hv
    · rw [off _ 1 _ (by decide), off _ 0 _ (by decide), World.cell?_drew]
      unfold filled
      rw [off _ 7 _ (by decide), off _ 6 _ (by decide), off _ 5 _ (by decide), off _ 4 _ (by decide), off _ 3 _ (by decide), off _ 1 _ (by decide)]
      exact (h.get 2 (by cases b <;> rfl : (lRow b)[2]? = some (.int .u32 0))).trans hv
    · rw [off _ 1 _ (by decide), off _ 0 _ (by decide), World.cell?_drew]
      unfold filled
      rw [off _ 7 _ (by decide), off _ 6 _ (by decide), off _ 5 _ (by decide), off _ 4 _ (by decide), put _ 3 _ s1 (by decide)]; exact hv
    · rw [off _ 1 _ (by decide), off _ 0 _ (by decide), World.cell?_drew]
      unfold filled
      rw [off _ 7 _ (by decide), off _ 6 _ (by decide), off _ 5 _ (by decide), put _ 4 _ s2 (by decide)]; exact hv
    · rw [off _ 1 _ (by decide), off _ 0 _ (by decide), World.cell?_drew]
      unfold filled
      rw [off _ 7 _ (by decide), off _ 6 _ (by decide), put _ 5 _ s3 (by decide)]; exact hv
    · rw [off _ 1 _ (by decide), off _ 0 _ (by decide), World.cell?_drew]
      unfold filled
      rw [off _ 7 _ (by decide), put _ 6 _ s4 (by decide)]; exact hv
    · rw [off _ 1 _ (by decide), off _ 0 _ (by decide), World.cell?_drew]
      unfold filled
      rw [put _ 7 _ s5 (by decide)]; exact hv
  · simp [onced, filled_fro, h.2 i hi]
theorem onced_below (w : World) (g : Nat) : Below g w (onced w g) := by
  unfold onced filled
  exact ((((((((Below.refl g w).setCell (Nat.le_refl _) _).setCell (Nat.le_refl _) _).setCell (Nat.le_refl _) _).setCell (Nat.le_refl _) _).setCell (Nat.le_refl _) _).setCell (Nat.le_refl _) _).drew.setCell (Nat.le_refl _) _).setCell (Nat.le_refl _) _
set_option maxRecDepth 100000 in
set_option maxHeartbeats 1600000 in
theorem do_any (g : Nat) (b : Bool) (w : World) (h : LtAt w g b) :
    Calls Tryz.prog 35 #[.pointer (some ⟨g, 0, none⟩), .func (.func 94) #[.pointer (some ⟨g, 0, none⟩)] #[]] w fun e w' => e = .returned (.tuple #[]) ∧ LtAt w' g true ∧ Below g w w' := by
  have hnot : ∀ (x : Bool) (w : World), (Op.unary .not (.bool x)).run Tryz.prog w = .ok (.bool (!x)) w := fun _ _ => rfl
  cases b
  · have h0 : w.cell? ⟨g, 0, none⟩ = some (.int .u32 0) := h.get 0 rfl
    have hl := run_call_load (P := Tryz.prog) Tryz.func69 (by kernel_rfl) (by kernel_rfl) (by kernel_rfl) .u32 (by kernel_rfl) h0
    have HS := Lib.hid (slow_any g w h)
    have HO := Lib.hid (onced_get h)
    clear h
    go_enter Tryz.func35, Tryz.ntmps35
    go_wp2_with (first | (go_at_call 53; refine HS.out.mono ?_; rintro e w' ⟨rfl, rfl⟩) | (go_at_call 52; go_in))
    go_end0
    exact ⟨rfl, HO.out, onced_below w g⟩
  · have h0 : w.cell? ⟨g, 0, none⟩ = some (.int .u32 1) := h.get 0 rfl
    have hl := run_call_load (P := Tryz.prog) Tryz.func69 (by kernel_rfl) (by kernel_rfl) (by kernel_rfl) .u32 (by kernel_rfl) h0
    have HO := Lib.hid h
    clear h
    go_enter Tryz.func35, Tryz.ntmps35
    go_wp2
    go_end0
    exact ⟨rfl, HO.out, Below.refl _ _⟩
theorem made_get {w : World} {g K : Nat} (h : LtAt w g true) (hK : K < 5) : w.cell? ⟨g, 3 + K, none⟩ = some (.string (ltB K)) := by
  refine h.get (3 + K) ?_
  rcases (show K = 0 ∨ K = 1 ∨ K = 2 ∨ K = 3 ∨ K = 4 by omega) with rfl | rfl | rfl | rfl | rfl <;> rfl
theorem ltB_no {K : Nat} (h : ¬ K < 5) : ltB K = ByteArray.empty := by
  unfold ltB lt
  rw [if_neg (by omega), if_neg (by omega), if_neg (by omega), if_neg (by omega)]; rfl
set_option maxRecDepth 100000 in
set_option maxHeartbeats 1000000 in
theorem of_any (g K : Nat) (b : Bool) (hK : K < 256) (w : World) (h : LtAt w g b) :
    Calls Tryz.prog 80 #[.pointer (some ⟨g, 0, none⟩), .int .u8 K] w fun e w' => e = .returned (.string (ltB K)) ∧ LtAt w' g true ∧ Below g w w' := by
  have hmf : ∀ (fn : Fn) (first cap : Array Value) (w : World), (Instr.makeFunc fn first cap).run Tryz.prog w = .ok (.func fn first cap) w := fun _ _ _ _ => rfl
  have HD := Lib.hid (do_any g b w h)
  clear h
  by_cases h5 : K < 5
  · have d : decide ((5 : Int) ≤ (K : Int)) = false := by simp; omega
    go_enter Tryz.func80, Tryz.ntmps80
    go_wp2_with fail
    refine HD.out.mono ?_
    rintro e w1 ⟨rfl, h1, hb⟩
    have hc := made_get h1 h5
    have H1 := Lib.hid h1
    clear h1
    go_wp2
    go_ret
    exact ⟨rfl, H1.out, hb⟩
  · have d : decide ((5 : Int) ≤ (K : Int)) = true := by simp; omega
    have HE := Lib.hid (ltB_no h5)
    go_enter Tryz.func80, Tryz.ntmps80
    go_wp2_with fail
    refine HD.out.mono ?_
    rintro e w1 ⟨rfl, h1, hb⟩
    have H1 := Lib.hid h1
    clear h1
    go_wp2
    go_ret
    exact ⟨by rw [HE.out]; rfl, H1.out, hb⟩
end Go.Proofs.YtngcogjjcidccaaGreat.Ino
