/- Contract of package slices' SortStableFunc at changes: the list is put into order by key; those of one key stay as they stood. -/
import Derived.Test.YtjkmfonngbendaaGreatDoorChL
namespace Go.Proofs.YtjkmfonngbendaaGreatDoor.Sc
set_option linter.unusedVariables false
set_option maxRecDepth 100000
open Go.ChangeShapes Go.WideShapes Go.ChangeAt Go.RowKit
open Ar Rg St
set_option maxRecDepth 100000 in
set_option maxHeartbeats 1000000 in
theorem stable_any (D : List Ch) (g cap N : Nat) (hN : N = D.length) (hL : N ≤ cap) (hm : N ≤ 281474976710656) (w : World) (hA : Arr enc 3 w g D) :
    Calls Tryz.prog 129 #[.slice (some ⟨g, 0, none⟩) N cap, .int .i64 N, CMP] w fun e w' => e = .returned (.tuple #[]) ∧ Done D g w w' := by
  have HN := Lib.hid hN
  have H1 := Lib.hid (l1_start hA)
  clear hN hA
  unfold CMP
  go_enter Tryz.func129, Tryz.ntmps129
  go_wp2_with fail
  go_loopw [7, 8] (fun v u wr => ∃ a : Nat, v = .int .i64 a ∧ u = .int .i64 ((a : Int) + 20) ∧ Hid (L1 D g w a wr)) (fun v u _ => N + 40 - (intOf u).toNat)
  case atStart => exact ⟨0, by go_num, by go_num, H1.out⟩
  case round =>
    clear H1
    obtain ⟨a, rfl, rfl, h1⟩ := hrel
    have ha := (Hid.out h1).le HN.out
    by_cases hb : a + 20 ≤ N
    · have hb1 : (a : Int) + 20 ≤ (N : Int) := by omega
      go_wp2_with fail
      go_at_call 171
      refine (l1_step HN.out cap hL hm (Hid.out h1) hb _ rfl).mono ?_
      rintro e w1 ⟨rfl, hs⟩
      have HS1 := Lib.hid hs
      clear hs h1
      go_wp2
      exact ⟨⟨a + 20, by go_num, by go_num, HS1.out⟩, by simp [intOf] <;> omega⟩
    · have hb1 : (N : Int) < (a : Int) + 20 := by omega
      go_wp2_with fail
      go_at_call 171
      refine (l1_last HN.out cap hL hm (Hid.out h1) (by omega)).mono ?_
      rintro e w1 ⟨rfl, hs⟩
      have HS1 := Lib.hid hs
      clear hs h1 hb hb1
      go_wp2_with fail
      go_loopw [6] (fun v wr => ∃ bs : Nat, v = .int .i64 bs ∧ 0 < bs ∧ bs ≤ 2 * N + 20 ∧ Hid (L2 D g w bs wr)) (fun v _ => N - (intOf v).toNat)
      case atStart => exact ⟨20, by go_num, by omega, by omega, HS1.out⟩
      case round =>
        clear HS1
        obtain ⟨bs, rfl, c1, c2, h2⟩ := hrel
        by_cases hlt : bs < N
        · have HS2 := Lib.hid (l2_in (Hid.out h2))
          clear h2
          go_wp2_with fail
          go_loopw [7, 8] (fun v u wr => ∃ a : Nat, v = .int .i64 a ∧ u = .int .i64 ((a : Int) + 2 * (bs : Int)) ∧ Hid (L3 D g w bs a wr)) (fun v u _ => N + 4 * bs - (intOf u).toNat)
          case atStart => exact ⟨0, by go_num, by go_num, HS2.out⟩
          case round =>
            clear HS2
            obtain ⟨a2, rfl, rfl, h3⟩ := hrel
            have ha2 := (Hid.out h3).le HN.out
            by_cases hb : a2 + 2 * bs ≤ N
            · have hb1 : (a2 : Int) + 2 * (bs : Int) ≤ (N : Int) := by omega
              go_wp2_with fail
              go_at_call 172
              refine (l3_step HN.out cap hL hm (Hid.out h3) c1 hb _ _ rfl rfl).mono ?_
              rintro e w1 ⟨rfl, hs⟩
              have HS1 := Lib.hid hs
              clear hs h3
              go_wp2
              exact ⟨⟨a2 + 2 * bs, by go_num, by go_num, HS1.out⟩, by simp [intOf] <;> omega⟩
            · have hb1 : (N : Int) < (a2 : Int) + 2 * (bs : Int) := by omega
              by_cases hl : a2 + bs < N
              · have hl1 : (a2 : Int) + (bs : Int) < (N : Int) := by omega
                go_wp2_with fail
                go_at_call 172
                refine (l3_last HN.out cap hL hm (Hid.out h3) c1 (by omega) _ rfl hl).mono ?_
                rintro e w1 ⟨rfl, hs⟩
                have HS1 := Lib.hid hs
                clear hs h3
                go_wp2
                exact ⟨⟨2 * bs, by go_num, by omega, by omega, HS1.out⟩, by simp [intOf] <;> omega⟩
              · have hl1 : (N : Int) ≤ (a2 : Int) + (bs : Int) := by omega
                have HS1 := Lib.hid (l3_few HN.out (Hid.out h3) c1 (by omega))
                clear h3
                go_wp2
                exact ⟨⟨2 * bs, by go_num, by omega, by omega, HS1.out⟩, by simp [intOf] <;> omega⟩
        · have HS2 := Lib.hid (l2_end (Hid.out h2) (by rw [← HN.out]; omega))
          clear h2
          go_wp2
          exact ⟨rfl, _, results_none rfl _ _ _, rfl, HS2.out⟩
theorem sort_any (D : List Ch) (g cap N : Nat) (hN : N = D.length) (hL : N ≤ cap) (hm : N ≤ 281474976710656) (w : World) (hA : Arr enc 3 w g D) :
    Calls Tryz.prog 83 #[.slice (some ⟨g, 0, none⟩) N cap, CMP] w fun e w' => e = .returned (.tuple #[]) ∧ Done D g w w' := by
  have HC := Lib.hid (stable_any D g cap N hN hL hm w hA)
  clear hA hN
  unfold CMP at *
  go_enter Tryz.func83, Tryz.ntmps83
  go_wp2_with fail
  go_at_call 129
  refine HC.out.mono ?_
  rintro e w1 ⟨rfl, hs⟩
  have HS1 := Lib.hid hs
  clear hs HC
  go_wp2
  exact ⟨rfl, _, results_none rfl _ _ _, rfl, HS1.out⟩
end Go.Proofs.YtjkmfonngbendaaGreatDoor.Sc
