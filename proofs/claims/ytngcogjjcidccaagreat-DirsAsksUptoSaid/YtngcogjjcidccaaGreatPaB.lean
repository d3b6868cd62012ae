/- Contracts of lists of names, and of the parts of a text between slashes. -/
import Derived.Test.YtngcogjjcidccaaGreatPaS
namespace Go.Proofs.YtngcogjjcidccaaGreat.Ph
set_option linter.unusedVariables false
open Go.ChangeShapes Go.WideShapes Go.ChangeAt Go.RowKit
open BigFrame
open Ar
theorem all_take {D : List ByteArray} {i : Nat} {x : ByteArray} (hx : D[i]? = some x) (h : (D.take i).all nb = true) : (D.take (i + 1)).all nb = nb x := by
  obtain ⟨hi, he⟩ := List.getElem?_eq_some_iff.1 hx
  rw [List.take_succ_eq_append_getElem hi, List.all_append, h, he]
  simp
theorem all_no_of {D : List ByteArray} {i : Nat} {x : ByteArray} (hx : D[i]? = some x) (h : nb x = false) : D.all nb = false := by
  rw [List.all_eq_false]
  exact ⟨x, List.mem_of_getElem? hx, by rw [h]; decide⟩
theorem allNames_any (D : List ByteArray) (A : Option Addr) (n c B : Nat) (hn : n = D.length) (hm : n ≤ 9223372036854775807) (w : World) (hB : B ≤ w.heap.size) (hD : Ls en1 1 w B A D) :
    Calls Tryz.prog 61 #[.slice A n c] w fun e w' => e = .returned (.bool (D.all nb)) ∧ w = w' := by
  have HN := Lib.hid hn
  have HD := Lib.hid hD
  clear hn hD
  go_enter Tryz.func61, Tryz.ntmps61
  go_wp2
  go_loop [7] (fun v => ∃ i : Nat, i ≤ n ∧ v = .int .i64 i ∧ Hid ((D.take i).all nb = true)) (fun v => n - (intOf v).toNat)
  case atStart => exact ⟨0, Nat.zero_le _, rfl, Lib.hid rfl⟩
  case round =>
    obtain ⟨i, hi, rfl, HI⟩ := hrel
    by_cases hlt : i < n
    · obtain ⟨x, hx⟩ : ∃ x, D[i]? = some x := ⟨_, List.getElem?_eq_getElem (by rw [← HN.out]; exact hlt)⟩
      obtain ⟨b, o, hAe, hb, hc⟩ := one_cell HD.out hx
      have hbs : b < w.heap.size := by omega
      clear HD
      subst hAe
      have HX := Lib.hid hx
      have HC := Lib.hid (fun w => name_any x w (fun c w => contains_any x c w))
      clear hx
      cases hq : nb x
      · rw [hq] at HC
        have HE := Lib.hid (all_no_of HX.out hq)
        clear hq HI
        go_wp2_with (go_at_call 63; refine (HC.out _).mono ?_; rintro e w' ⟨rfl, rfl⟩)
        go_ret
        exact ⟨by rw [HE.out]; rfl, rfl⟩
      · rw [hq] at HC
        have HE := Lib.hid ((all_take HX.out (Hid.out HI)).trans hq)
        clear hq HI
        go_wp2_with (go_at_call 63; refine (HC.out _).mono ?_; rintro e w' ⟨rfl, rfl⟩)
        go_round
        case rel => exact ⟨i + 1, by omega, by go_num, HE⟩
        case measure => simp [intOf]; omega
    · obtain rfl : i = n := by omega
      rw [List.take_of_length_le (by rw [← HN.out]; exact Nat.le_refl _)] at HI
      go_wp2
      go_ret
      exact ⟨by rw [Hid.out HI]; rfl, rfl⟩
abbrev MkS (w wr : World) (v : Value) (D : List ByteArray) : Prop := Mk en1 1 9 w wr v D
theorem infoS : (Tryz.prog.info? 9).map (fun i => (i.zero, i.size, i.bytes)) = some (some (.string ByteArray.empty), 1, 16) := by kernel_rfl
theorem catS {ops : Array Oper} {rest : List Oper} {o : Oper} {a : Act} {Q : Exit → Act → World → Prop} {w wr : World} {v : Value} {D : List ByteArray} (hM : MkS w wr v D) (E : List ByteArray) (A : Option Addr) (m c : Nat) {B : Nat} (hm : m = E.length) (hL : Ls en1 1 wr B A E) (hlen : D.length + m ≤ 8796093022208)
    (hgd : o.guard = none) (s x : Operand) (ho : o.op = .call { callee := .builtin .append, args := #[s, x], argTypes := #[23, 23] }) (hs : a.eval s = v) (hx : a.eval x = .slice A m c)
    (h : ∀ v' w', MkS w w' v' (D ++ E) → wr.grownBy w' v.ownBlock → wpList Tryz.prog ops Q rest (a.put o.dst v') w') : wpList Tryz.prog ops Q (o :: rest) a wr := by
  obtain ⟨i0, hi, hz0, hz1, hz2⟩ := info_parts infoS
  exact wpList_cat 23 i0 _ 16 Tryz.underlying23 hi hz0 hz1 hz2 rfl (by decide) en1_len en1_one hM m c hm hL (by unfold maxLen; omega) (by omega) hgd s x ho hs hx h
theorem ls_new_at {α : Type} {en : α → List Value} {k : Nat} (w : World) (x : α) (e : TypeId) {N : Nat} (hN : w.heap.size = N) : Ls en k (w.alloc (.cells (en x).toArray e)) (N + 1) (some ⟨N, 0, none⟩) [x] := by
  subst hN
  exact Ls.new _ x _ _ (Nat.lt_succ_self _)
/-- what stands between slashes, as strings -/
def bsL (l : List UInt8) : ByteArray := ⟨l.toArray⟩
def cutB (s : ByteArray) : List ByteArray := (cut s.data.toList).map bsL
theorem bsL_data (s : ByteArray) : bsL s.data.toList = s := rfl
theorem bsL_list (l : List UInt8) : (bsL l).data.toList = l := rfl
theorem extract_list (s : ByteArray) (i j : Nat) : (s.extract i j).data.toList = (s.data.toList.drop i).take (j - i) := by
  rw [ByteArray.data_extract, Array.toList_extract, List.extract_eq_take_drop]
theorem cutB_none {s : ByteArray} (h : s.data.toList.contains 47 = false) : cutB s = [s] := by
  unfold cutB
  rw [cut_none (by intro hm; rw [← List.contains_iff_mem] at hm; rw [h] at hm; cases hm)]
  rfl
theorem cutB_at {s : ByteArray} {i : Nat} (hi : i < s.size) (h : (s.data.toList.take i).contains 47 = false) (hc : (s[i] == 47) = true) : cutB s = s.extract 0 i :: cutB (s.extract (i + 1) s.size) := by
  have hl : s.data.toList = s.data.toList.take i ++ 47 :: s.data.toList.drop (i + 1) := by
    have hi' : i < s.data.toList.length := by simpa using hi
    have : s.data.toList[i] = 47 := by
      rw [beq_iff_eq] at hc
      exact hc
    rw [← this, List.getElem_cons_drop, List.take_append_drop]
  have hn : 47 ∉ s.data.toList.take i := by intro hm; rw [← List.contains_iff_mem] at hm; rw [h] at hm; cases hm
  unfold cutB
  have e1 : cut s.data.toList = s.data.toList.take i :: cut (s.data.toList.drop (i + 1)) := by
    conv => lhs; rw [hl]
    rw [cut_app _ hn]
  rw [e1, List.map_cons, extract_list, List.take_of_length_le (i := s.size - (i + 1)) (by rw [List.length_drop, Array.length_toList]; exact Nat.le_refl _)]
  congr 1
  apply ByteArray.ext
  apply Array.toList_inj.1
  rw [bsL_list, extract_list]
  simp
def strSz : Value → Nat
  | .string t => t.size
  | _ => 0
set_option maxRecDepth 100000 in
set_option maxHeartbeats 1000000 in
theorem parts_any (s : ByteArray) (hs : s.size ≤ 1048576) (w : World) :
    Calls Tryz.prog 60 #[.string s] w fun e w' => ∃ v, e = .returned v ∧ MkS w w' v (cutB s) := by
  go_enter Tryz.func60, Tryz.ntmps60
  go_wp2_with fail
  go_step3
  go_wp2_with fail
  go_step3
  go_wp2_with fail
  go_loopw [0, 3] (fun sv lv wr => ∃ (t : ByteArray) (D : List ByteArray), sv = .string t ∧ Hid (cutB s = D ++ cutB t) ∧ D.length + t.size ≤ 1048576 ∧ Hid (MkS w wr lv D)) (fun sv _ _ => strSz sv)
  case atStart => exact ⟨s, [], rfl, Lib.hid rfl, by simpa using hs, Lib.hid (Mk.nil (Below.refl _ _))⟩
  case round =>
    obtain ⟨t, D, rfl, HC, hD, HM⟩ := hrel
    go_wp2_with fail
    go_loopw [0, 3, 7] (fun sv lv v wr2 => ∃ i : Nat, sv = .string t ∧ i ≤ t.size ∧ v = .int .i64 i ∧ Hid ((t.data.toList.take i).contains 47 = false) ∧ Hid (MkS w wr2 lv D)) (fun _ _ v _ => t.size - (intOf v).toNat)
    case atStart => exact ⟨0, rfl, Nat.zero_le _, by go_num, Lib.hid rfl, HM⟩
    case round =>
      obtain ⟨i, rfl, hi, rfl, HI, HM2⟩ := hrel
      clear HM
      by_cases hlt : i < t.size
      · have h47 := has_take (c := 47) hlt
        rw [Hid.out HI, Bool.false_or] at h47
        cases b47 : (t[i] == 47)
        · have c47 : ((t[i].toNat : Int) == (((⟨#[47]⟩ : ByteArray)[0]'(by decide)).toNat : Int)) = false := byte_ne (c := (⟨#[47]⟩ : ByteArray)[0]'(by decide)) b47
          have HI2 := Lib.hid (h47.trans b47)
          clear h47 b47 HI
          go_wp2_with fail
          go_quiet (fail)
          go_wp2_with fail
          refine ⟨⟨i + 1, rfl, by omega, by go_num, HI2, Lib.hid ((Hid.out HM2).drewN nq)⟩, ?_⟩
          simp [intOf]
          omega
        · have c47 : ((t[i].toNat : Int) == (((⟨#[47]⟩ : ByteArray)[0]'(by decide)).toNat : Int)) = true := byte_eq (c := (⟨#[47]⟩ : ByteArray)[0]'(by decide)) b47
          have HC2 := Lib.hid (show cutB s = (D ++ [t.extract 0 i]) ++ cutB (t.extract (i + 1) t.size) by rw [Hid.out HC, cutB_at hlt (Hid.out HI) b47, List.append_assoc]; rfl)
          clear h47 b47 HI
          go_wp2_with fail
          go_quiet (fail)
          have HM3 := Lib.hid ((Hid.out HM2).drewN nq)
          clear HM2
          generalize World.drewN wr nq = W3 at *
          go_wp2_with (at_builtin; refine catS (HM3.out.alloc _) [t.extract 0 i] _ 1 1 rfl (Ls.new _ _ _ _ (Nat.lt_succ_self _)) (by omega) rfl _ _ rfl rfl rfl ?_; intro v3 w3 hM hG; have HM4 := Lib.hid hM; clear hM hG)
          refine ⟨⟨t.extract (i + 1) t.size, D ++ [t.extract 0 i], rfl, HC2, ?_, HM4⟩, ?_⟩
          · rw [List.length_append, ByteArray.size_extract]; simp; omega
          · show (t.extract (i + 1) t.size).size < t.size
            rw [ByteArray.size_extract]; omega
      · obtain rfl : i = t.size := by omega
        rw [List.take_of_length_le (by simp)] at HI
        have HC2 := Lib.hid (show D ++ [t] = cutB s by rw [Hid.out HC, cutB_none (Hid.out HI)])
        clear HI
        go_wp2_with (at_builtin; refine catS ((Hid.out HM2).alloc _) [t] _ 1 1 rfl (Ls.new _ _ _ _ (Nat.lt_succ_self _)) (by omega) rfl _ _ rfl rfl rfl ?_; intro v3 w3 hM hG; have HM4 := Lib.hid hM; clear hM hG)
        rw [Exit.noGoto_ret]
        go_ret
        exact ⟨_, rfl, by rw [← HC2.out]; exact HM4.out⟩
end Go.Proofs.YtngcogjjcidccaaGreat.Ph
