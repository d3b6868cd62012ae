/- Items and changes appended to a slice of the call's own; contract of the document's Same. -/
import Derived.Test.YtcnggidihkcndaaGreatDoorItN
import Derived.Test.YtcnggidihkcndaaGreatDoorItC
namespace Go.Proofs.YtcnggidihkcndaaGreatDoor.It
set_option linter.unusedVariables false
set_option maxRecDepth 100000
open Go.ChangeShapes Go.WideShapes Go.ChangeAt Go.RowKit
open Ar Rg St
open BigFrame
theorem enc_one (x : Itm) : ∀ u ∈ enc x, u.oneCell' = true := by
  intro v hv
  simp [enc] at hv
  rcases hv with rfl | rfl <;> rfl
theorem infoI : (Tryz.prog.info? 55).map (fun i => (i.zero, i.size, i.bytes)) = some (some (.agg #[.string ByteArray.empty, .string ByteArray.empty]), 2, 32) := by kernel_rfl
theorem infoC : (Tryz.prog.info? 43).map (fun i => (i.zero, i.size, i.bytes)) = some (some (.agg #[.string ByteArray.empty, .bool false, .string ByteArray.empty]), 3, 40) := by kernel_rfl
/-- of the call's own: items, changes -/
abbrev MkI (w wr : World) (v : Value) (D : List Itm) : Prop := Mk enc 2 55 w wr v D
abbrev MkC (w wr : World) (v : Value) (D : List Ch) : Prop := Mk Sc.enc 3 43 w wr v D
theorem catI {ops : Array Oper} {rest : List Oper} {o : Oper} {a : Act} {Q : Exit → Act → World → Prop} {w wr : World} {v : Value} {D : List Itm} (hM : MkI w wr v D) (E : List Itm) (A : Option Addr) (m c : Nat) {B : Nat} (hm : m = E.length) (hL : Ls enc 2 wr B A E) (hlen : D.length + m ≤ 4398046511104)
    (hgd : o.guard = none) (s x : Operand) (ho : o.op = .call { callee := .builtin .append, args := #[s, x], argTypes := #[22, 22] }) (hs : a.eval s = v) (hx : a.eval x = .slice A m c)
    (h : ∀ v' w', MkI w w' v' (D ++ E) → wr.grownBy w' v.ownBlock → wpList Tryz.prog ops Q rest (a.put o.dst v') w') : wpList Tryz.prog ops Q (o :: rest) a wr := by
  obtain ⟨i0, hi, hz0, hz1, hz2⟩ := info_parts infoI
  exact wpList_cat 22 i0 _ 32 Tryz.underlying22 hi hz0 hz1 hz2 rfl (by decide) enc_len enc_one hM m c hm hL (by unfold maxLen; omega) (by omega) hgd s x ho hs hx h
theorem catC {ops : Array Oper} {rest : List Oper} {o : Oper} {a : Act} {Q : Exit → Act → World → Prop} {w wr : World} {v : Value} {D : List Ch} (hM : MkC w wr v D) (E : List Ch) (A : Option Addr) (m c : Nat) {B : Nat} (hm : m = E.length) (hL : Ls Sc.enc 3 wr B A E) (hlen : D.length + m ≤ 3518437208883)
    (hgd : o.guard = none) (s x : Operand) (ho : o.op = .call { callee := .builtin .append, args := #[s, x], argTypes := #[25, 25] }) (hs : a.eval s = v) (hx : a.eval x = .slice A m c)
    (h : ∀ v' w', MkC w w' v' (D ++ E) → wr.grownBy w' v.ownBlock → wpList Tryz.prog ops Q rest (a.put o.dst v') w') : wpList Tryz.prog ops Q (o :: rest) a wr := by
  obtain ⟨i0, hi, hz0, hz1, hz2⟩ := info_parts infoC
  exact wpList_cat 25 i0 _ 40 Tryz.underlying25 hi hz0 hz1 hz2 rfl (by decide) Sc.enc_len Sc.enc_one hM m c hm hL (by unfold maxLen; omega) (by omega) hgd s x ho hs hx h
/-! ## Same -/
def eqI (a b : Itm) : Bool := decide (key a = key b) && decide (a.v.data.toList = b.v.data.toList)
theorem eqI_iff {a b : Itm} : eqI a b = true ↔ a = b := by
  unfold eqI
  rw [Bool.and_eq_true, decide_eq_true_iff, decide_eq_true_iff]
  exact ⟨fun h => itm_ext h.1 h.2, fun h => by subst h; exact ⟨rfl, rfl⟩⟩
def sm : List Itm → List Itm → Bool
  | [], [] => true
  | a :: A, b :: B => eqI a b && sm A B
  | _, _ => false
theorem sm_iff : ∀ {A B : List Itm}, sm A B = true ↔ A = B
  | [], [] => by simp [sm]
  | [], _ :: _ => by simp [sm]
  | _ :: _, [] => by simp [sm]
  | a :: A, b :: B => by
    rw [sm, Bool.and_eq_true, eqI_iff, sm_iff, List.cons.injEq]
theorem sm_no {A B : List Itm} (h : A ≠ B) : sm A B = false := by
  rw [Bool.eq_false_iff]; exact fun e => h (sm_iff.1 e)
theorem take_more {α : Type} {D E : List α} {i : Nat} {x : α} (h : D.take i = E.take i) (hx : D[i]? = some x) (hy : E[i]? = some x) : D.take (i + 1) = E.take (i + 1) := by
  rw [List.take_add_one, List.take_add_one, h, hx, hy]
set_option maxRecDepth 100000 in
set_option maxHeartbeats 1000000 in
theorem same_any (D E : List Itm) (A A' : Option Addr) (n c n' c' B B' : Nat) (hn : n = D.length) (hn' : n' = E.length) (hm : n ≤ 281474976710656) (w : World) (hB : B ≤ w.heap.size) (hB' : B' ≤ w.heap.size) (hD : Ls enc 2 w B A D) (hE : Ls enc 2 w B' A' E) :
    Calls Tryz.prog 13 #[.slice A n c, .slice A' n' c'] w fun e w' => e = .returned (.bool (sm D E)) ∧ Below w.heap.size w w' := by
  have HN := Lib.hid hn
  have HN' := Lib.hid hn'
  have HD := Lib.hid hD
  have HE := Lib.hid hE
  clear hn hn' hD hE
  by_cases hl : n = n'
  · subst hl
    go_enter Tryz.func13, Tryz.ntmps13
    go_wp2_with fail
    go_loopw [13] (fun v wr => ∃ i : Nat, i ≤ n ∧ v = .int .i64 i ∧ Hid (D.take i = E.take i) ∧ Hid (Below w.heap.size w wr)) (fun v _ => n - (intOf v).toNat)
    case atStart => exact ⟨0, Nat.zero_le _, by go_num, rfl, Below.refl _ _⟩
    case round =>
      obtain ⟨i, hi, rfl, htk, hbel⟩ := hrel
      by_cases hlt : i < n
      · obtain ⟨x, hx⟩ : ∃ x, D[i]? = some x := ⟨_, List.getElem?_eq_getElem (by rw [← HN.out]; exact hlt)⟩
        obtain ⟨y, hy⟩ : ∃ y, E[i]? = some y := ⟨_, List.getElem?_eq_getElem (by rw [← HN'.out]; exact hlt)⟩
        obtain ⟨b, o, hAe, hb, hr⟩ := (HD.out.below ((Hid.out hbel).mono hB)) i x hx
        obtain ⟨b', o', hAe', hb', hr'⟩ := (HE.out.below ((Hid.out hbel).mono hB')) i y hy
        have hc0 : wr.cell? ⟨b, o + i * 2, none⟩ = some (.string x.k) := hr 0 _ rfl
        have hc1 : wr.cell? ⟨b, o + i * 2 + 1, none⟩ = some (.string x.v) := hr 1 _ rfl
        have hd0 : wr.cell? ⟨b', o' + i * 2, none⟩ = some (.string y.k) := hr' 0 _ rfl
        have hd1 : wr.cell? ⟨b', o' + i * 2 + 1, none⟩ = some (.string y.v) := hr' 1 _ rfl
        clear hr hr'
        subst hAe hAe'
        by_cases hk : key x = key y
        · have he0 : (x.k.toList == y.k.toList) = true := by rw [str_eq]; exact decide_eq_true hk
          by_cases hv : x.v.data.toList = y.v.data.toList
          · have he1 : (x.v.toList == y.v.toList) = true := by rw [str_eq]; exact decide_eq_true hv
            have HT := Lib.hid (take_more (Hid.out htk) hx ((itm_ext hk hv) ▸ hy))
            clear htk hx hy hk hv
            go_wp2_with fail
            go_big_quiet (fail)
            have HB2 := Lib.hid (below_drewN (Hid.out hbel) nq)
            clear hbel
            generalize World.drewN _ _ = W2 at *
            go_wp2
            exact ⟨⟨i + 1, by omega, by go_num, HT.out, HB2.out⟩, by simp [intOf] <;> omega⟩
          · have he1 : (x.v.toList == y.v.toList) = false := by rw [str_eq]; exact decide_eq_false hv
            have HF := Lib.hid (sm_no (A := D) (B := E) fun e => hv (by rw [e, hy] at hx; cases hx; rfl))
            clear htk hx hy hk hv
            go_wp2_with fail
            go_big_quiet (fail)
            have HB2 := Lib.hid (below_drewN (Hid.out hbel) nq)
            clear hbel
            generalize World.drewN _ _ = W2 at *
            go_wp2
            go_ret
            exact ⟨by rw [HF.out]; rfl, HB2.out⟩
        · have he0 : (x.k.toList == y.k.toList) = false := by rw [str_eq]; exact decide_eq_false hk
          have HF := Lib.hid (sm_no (A := D) (B := E) fun e => hk (by rw [e, hy] at hx; cases hx; rfl))
          clear htk hx hy hk
          go_wp2_with fail
          go_big_quiet (fail)
          have HB2 := Lib.hid (below_drewN (Hid.out hbel) nq)
          clear hbel
          generalize World.drewN _ _ = W2 at *
          go_wp2
          go_ret
          exact ⟨by rw [HF.out]; rfl, HB2.out⟩
      · have HT := Lib.hid (show sm D E = true from sm_iff.2 (by
          have h := Hid.out htk
          rwa [List.take_of_length_le (by rw [← HN.out]; omega), List.take_of_length_le (by rw [← HN'.out]; omega)] at h))
        go_wp2
        go_ret
        exact ⟨by rw [HT.out]; rfl, Hid.out hbel⟩
  · have hne : ((n : Int) != (n' : Int)) = true := by rw [bne_iff_ne]; omega
    have HF := Lib.hid (sm_no (A := D) (B := E) fun e => hl (by rw [HN.out, HN'.out, e]))
    go_enter Tryz.func13, Tryz.ntmps13
    go_wp2
    go_ret
    exact ⟨by rw [HF.out]; rfl, Below.refl _ _⟩
end Go.Proofs.YtcnggidihkcndaaGreatDoor.It
