/- The walk of the law PackMany of package pack: texts one behind the other are taken one by one; it answers true. -/
import Derived.Test.YtfcggnlkeblinaaLawsA
import Derived.SliceStrings
namespace Go.Proofs.Ytfcggnlkeblinaa.Pk
set_option linter.unusedVariables false
open Go.ChangeShapes Go.WideShapes Go.ChangeAt Go.RowKit
/-- what the walk is told of a slice of strings that came in -/
def IsStrings (w : World) (a : Option Addr) (len cap : Nat) (ss : List ByteArray) : Prop :=
  (a = none ∧ len = 0 ∧ cap = 0 ∧ ss = []) ∨
  ∃ x, a = some x ∧ len ≤ cap ∧ cap ≤ maxLen ∧ ss.length = cap ∧ (∀ i, i < ss.length → w.cell? (x.add i) = some (.string (ss.getD i ByteArray.empty))) ∧ ∀ s ∈ ss, s.size ≤ maxLen
def okT (t : ByteArray) : Bool := decide (t.size ≤ 65535)
def kept (ss : List ByteArray) (k : Nat) : List ByteArray := (ss.take (min k 20)).filter okT
def catT : List ByteArray → ByteArray
  | [] => ByteArray.empty
  | t :: r => xB t ++ catT r
theorem empty_append (a : ByteArray) : ByteArray.empty ++ a = a := by
  apply ByteArray.ext
  rw [ByteArray.data_append]
  exact Array.empty_append
theorem append_empty (a : ByteArray) : a ++ ByteArray.empty = a := by
  apply ByteArray.ext
  rw [ByteArray.data_append]
  exact Array.append_empty
theorem catT_snoc (l : List ByteArray) (t : ByteArray) : catT (l ++ [t]) = catT l ++ xB t := by
  induction l with
  | nil =>
    show xB t ++ ByteArray.empty = ByteArray.empty ++ xB t
    rw [empty_append, append_empty]
  | cons a l ih =>
    show xB a ++ catT (l ++ [t]) = xB a ++ catT l ++ xB t
    rw [ih, ByteArray.append_assoc]
theorem catT_size (l : List ByteArray) : (catT l).size ≤ l.length * 65537 := by
  induction l with
  | nil => exact Nat.zero_le _
  | cons a l ih =>
    show (xB a ++ catT l).size ≤ _
    rw [ByteArray.size_append, List.length_cons]
    have := xB_le a
    omega
theorem kept_length (ss : List ByteArray) (k : Nat) : (kept ss k).length ≤ min k 20 := by
  unfold kept
  refine Nat.le_trans (List.length_filter_le _ _) ?_
  rw [List.length_take]
  omega
theorem kept_ok (ss : List ByteArray) (k : Nat) : ∀ t ∈ kept ss k, t.size ≤ 65535 := by
  intro t ht
  have := (List.mem_filter.1 ht).2
  simpa [okT] using this
theorem kept_in (ss : List ByteArray) (k : Nat) (hk : k < ss.length) (h20 : k < 20) : kept ss (k + 1) = kept ss k ++ (if (ss[k]).size ≤ 65535 then [ss[k]] else []) := by
  unfold kept
  rw [show min (k + 1) 20 = k + 1 by omega, show min k 20 = k by omega, List.take_succ_eq_append_getElem hk, List.filter_append]
  by_cases h : (ss[k]).size ≤ 65535
  · rw [if_pos h]; simp [okT, h]
  · rw [if_neg h]; simp [okT, h]
theorem kept_out (ss : List ByteArray) (k : Nat) (h20 : ¬ k < 20) : kept ss (k + 1) = kept ss k := by
  unfold kept
  rw [show min (k + 1) 20 = 20 by omega, show min k 20 = 20 by omega]
theorem Try.infoS : (Try.prog.info? 9).map (fun i => (i.zero, i.size, i.bytes)) = some (some (.string ByteArray.empty), 1, 16) := by kernel_rfl
theorem own_below {w w' : World} {base : Nat} {e : TypeId} {size : Nat} {v : Value} {n : Nat} {xs : List Value} (h : w.ownsRow base e size v n xs) (hb : Below w.heap.size w w') : w'.ownsRow base e size v n xs :=
  h.kept ⟨hb.os, hb.tape, hb.output, hb.size, fun k hk _ => hb.block k hk⟩ (Classical.em _)
theorem many_some (b off len cap : Nat) (ss : List ByteArray) (w : World) (hl : len ≤ cap) (hm : cap ≤ maxLen) (hs : ss.length = cap) (hb : b < w.heap.size) (hc : ∀ i, i < ss.length → w.cell? ⟨b, off + i, none⟩ = some (.string (ss.getD i ByteArray.empty))) :
    Calls Try.prog 13 #[.slice (some ⟨b, off, none⟩) len cap] w fun e w' => e = .returned (.bool true) ∧ Below w.heap.size w w' := by
  obtain ⟨i0, hi, hz0, hz1, hz2⟩ := info_parts Try.infoS
  unfold maxLen at hm
  go_enter Try.func13, Try.ntmps13
  go_wp2_with (first
    | (go_at_call 26; refine (texts_true _).mono ?_; rintro e w1 ⟨rfl, hb1⟩))
  have HC := Lib.hid hc
  clear hc
  go_loopw [3, 4, 18] (fun t v i wr => ∃ k : Nat, k ≤ len ∧ i = .int .i64 k ∧ t = .string (catT (kept ss k)) ∧ wr.ownsRow w.heap.size 9 1 v (kept ss k).length ((kept ss k).map Value.string) ∧ Below w.heap.size w wr) (fun _ _ i _ => len - (intOf i).toNat)
  case atStart => exact ⟨0, Nat.zero_le _, rfl, rfl, World.ownsRow_nil _ _ _ _, hb1⟩
  case round =>
    obtain ⟨k, hk, rfl, rfl, hown, hbel⟩ := hrel
    by_cases hlt : k < len
    · have hks : k < ss.length := by omega
      have hcx : wr.cell? ⟨b, off + k, none⟩ = some (.string ss[k]) := by
        rw [hbel.cell hb, HC.out k hks, List.getD_eq_getElem?_getD, List.getElem?_eq_getElem hks]; rfl
      obtain ⟨t, ht⟩ : ∃ t, t = ss[k] := ⟨_, rfl⟩
      rw [← ht] at hcx
      have hsz := catT_size (kept ss k)
      have hkl := kept_length ss k
      have hx := xB_le t
      have hcs : (catT (kept ss k)).size ≤ 1310740 := by omega
      by_cases h20 : k < 20
      · by_cases hok : t.size ≤ 65535
        · have e1 := xE_ok hok
          have HK := Lib.hid (show kept ss (k + 1) = kept ss k ++ [t] by rw [kept_in ss k hks h20, ← ht, if_pos hok])
          clear ht
          go_wp2_with (first
            | (go_at_call 22; refine (text_any t _).mono ?_; rintro e w2 ⟨rfl, hb2⟩; have hown2 := own_below hown hb2)
            | (at_builtin; refine wpList_append_own _ rfl _ _ 44 rfl w.heap.size 9 i0 (.string ByteArray.empty) 1 16 Try.underlying44 hi hz0 hz1 hz2 rfl (by decide) _ _ _ rfl (hown2.alloc _) ⟨w2.heap.size, 0, none⟩ 1 1 [.string t] rfl rfl ?c1 ?c2 ?c3 ?c4 ?c5 ?_))
          case c1 =>
            intro j u hj
            match j, hj with
            | 0, hj => simp at hj; subst hj; simp [Addr.add]
          case c2 => intro u hu; simp at hu; subst hu; rfl
          case c3 => unfold maxLen; omega
          case c4 => omega
          case c5 => have := hbel.size; have := hb2.size; simp; omega
          · intro v' w3 hown3 hgrow _
            have hsz2 := hb2.size
            have hsz1 := hbel.size
            have hbel3 : Below w.heap.size w w3 := ((hbel.trans (hb2.mono hsz1)).alloc (by omega) _).grown hgrow (by simp; omega) (by
              intro q hq
              have := hown2.lt q hq
              exact this.1)
            have HO := Lib.hid hown3
            clear hown hown2 hown3 hgrow
            go_wp2
            go_roundw
            case rel =>
              have ho := HO.out
              refine ⟨k + 1, by omega, by go_num, by rw [HK.out, catT_snoc], ?_, hbel3⟩
              rw [HK.out, List.length_append, List.map_append]
              exact ho
            case measure => simp [intOf]; omega
        · have e1 := xE_no hok
          have HK := Lib.hid (show kept ss (k + 1) = kept ss k by rw [kept_in ss k hks h20, ← ht, if_neg hok, List.append_nil])
          clear ht hok
          go_wp2_with (first
            | (go_at_call 22; refine (text_any t _).mono ?_; rintro e w2 ⟨rfl, hb2⟩; have hown2 := own_below hown hb2))
          go_roundw
          case rel => exact ⟨k + 1, by omega, by go_num, by rw [HK.out], by rw [HK.out]; exact hown2, hbel.trans (hb2.mono hbel.size)⟩
          case measure => simp [intOf]; omega
      · have hd : decide ((k : Int) < 20) = false := by simp; omega
        have HK := Lib.hid (show kept ss (k + 1) = kept ss k from kept_out ss k h20)
        clear ht h20
        go_wp2_with (first
          | (go_at_call 22; refine (text_any t _).mono ?_; rintro e w2 ⟨rfl, hb2⟩; have hown2 := own_below hown hb2))
        go_roundw
        case rel => exact ⟨k + 1, by omega, by go_num, by rw [HK.out], by rw [HK.out]; exact hown2, hbel.trans (hb2.mono hbel.size)⟩
        case measure => simp [intOf]; omega
    · obtain rfl : k = len := by omega
      have hkok := kept_ok ss k
      have hkl := kept_length ss k
      obtain ⟨ps, hps⟩ : ∃ ps, ps = kept ss k := ⟨_, rfl⟩
      rw [← hps] at hown hkok hkl
      rw [← hps]
      clear hps HC
      rcases hown.2 with ⟨rfl, hnil⟩ | ⟨g, cap2, cur, rfl, hgb, hgh, hnc, hcm, hcs, htake⟩
      · have : ps = [] := by simpa using hnil
        subst this
        rw [show catT [] = ⟨#[]⟩ from rfl]
        go_wp2
        refine wp_loop_rounds 1 ?_
        rw [rounds_succ]
        go_wp2
        go_ret
        exact ⟨rfl, hbel⟩
      · have hg : g < wr.heap.size := by
          rcases Nat.lt_or_ge g wr.heap.size with h | h
          · exact h
          · rw [Array.getElem?_eq_none h] at hgh; cases hgh
        have hcell : ∀ j (h : j < ps.length), wr.cell? ⟨g, j, none⟩ = some (.string ps[j]) := by
          intro j h
          rw [hown.cellAt j (by omega), List.getElem?_map, List.getElem?_eq_getElem h]
          rfl
        have HCl := Lib.hid hcell
        have HOk := Lib.hid hkok
        clear hown hgh htake hcs hkok hcell
        obtain ⟨wo, rfl⟩ : ∃ wo : World, wo = wr := ⟨_, rfl⟩
        go_wp2
        go_loopw [3, 44] (fun t i wr => ∃ j : Nat, j ≤ ps.length ∧ i = .int .i64 j ∧ t = .string (catT (ps.drop j)) ∧ Below wo.heap.size wo wr) (fun _ i _ => ps.length - (intOf i).toNat)
        case atStart => exact ⟨0, Nat.zero_le _, rfl, rfl, Below.refl _ _⟩
        case round =>
          obtain ⟨j, hj, rfl, rfl, hbq⟩ := hrel
          by_cases hlt : j < ps.length
          · have hcx : wr.cell? ⟨g, j, none⟩ = some (.string ps[j]) := by rw [hbq.cell hg]; exact HCl.out j hlt
            have hok := HOk.out ps[j] (List.getElem_mem hlt)
            have hdr : ps.drop j = ps[j] :: ps.drop (j + 1) := List.drop_eq_getElem_cons hlt
            have hcat : catT (ps.drop j) = xB ps[j] ++ catT (ps.drop (j + 1)) := by rw [hdr]; rfl
            have hsz := catT_size (ps.drop j)
            have hdl : (ps.drop j).length ≤ 20 := by rw [List.length_drop]; omega
            have c1 := fun W => taketext_any (catT (ps.drop j)) W (by unfold maxLen; omega)
            rw [hcat, uT_back hok, uR_back hok, uE_back hok] at c1
            rw [hcat]
            obtain ⟨t, ht⟩ : ∃ t, t = ps[j] := ⟨_, rfl⟩
            rw [← ht] at c1 hcx
            rw [← ht]
            have C1 := Lib.hid c1
            clear c1 ht hcat hdr hok hsz hdl
            go_wp2_with (first
              | (go_at_call 24; refine (C1.out _).mono ?_; rintro e w2 ⟨rfl, hb2⟩))
            go_roundw
            case rel => exact ⟨j + 1, by omega, by go_num, rfl, hbq.trans (hb2.mono hbq.size)⟩
            case measure => simp [intOf]; omega
          · obtain rfl : j = ps.length := by omega
            have he : catT (ps.drop ps.length) = ⟨#[]⟩ := by rw [List.drop_length]; rfl
            rw [he]
            clear he
            go_wp2
            go_ret
            exact ⟨rfl, hbel.trans (hbq.mono hbel.size)⟩
theorem many_zero (a : Option Addr) (cap : Nat) (w : World) :
    Calls Try.prog 13 #[.slice a 0 cap] w fun e w' => e = .returned (.bool true) ∧ Below w.heap.size w w' := by
  go_enter Try.func13, Try.ntmps13
  go_wp2_with (first
    | (go_at_call 26; refine (texts_true _).mono ?_; rintro e w1 ⟨rfl, hb1⟩))
  refine wp_loop_rounds 1 ?_
  rw [rounds_succ]
  go_wp2
  refine wp_loop_rounds 1 ?_
  rw [rounds_succ]
  go_wp2
  go_ret
  exact ⟨rfl, hb1⟩
theorem packMany_walk (a : Option Addr) (len cap : Nat) (ss : List ByteArray) (w : World) (h : IsStrings w a len cap ss) :
    Calls Try.prog 13 #[.slice a len cap] w fun e w' => e = .returned (.bool true) ∧ Below w.heap.size w w' := by
  rcases h with ⟨rfl, rfl, rfl, rfl⟩ | ⟨x, rfl, hl, hm, hz, hcell, hws⟩
  · exact many_zero none 0 w
  · by_cases h0 : len = 0
    · subst h0
      exact many_zero (some x) cap w
    · obtain ⟨b, off, spot⟩ := x
      have hc := hcell 0 (by omega)
      have hspot : spot = none := by simpa [Addr.add] using World.cell?_spot hc
      subst hspot
      have hb := World.block_lt_of_cell? w _ hc
      have hplain : ∀ i, (⟨b, off, none⟩ : Addr).add i = ⟨b, off + i, none⟩ := fun i => by unfold Addr.add; split <;> simp_all
      exact many_some b off len cap ss w hl hm hz (by simpa [hplain] using hb) (fun i hi => by rw [← hplain]; exact hcell i hi)
end Go.Proofs.Ytfcggnlkeblinaa.Pk
