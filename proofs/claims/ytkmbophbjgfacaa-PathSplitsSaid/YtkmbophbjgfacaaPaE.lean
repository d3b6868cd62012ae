/- Contracts of the two ways in which names are put together, and in which lists of names are held against each other. -/
import Derived.Test.YtkmbophbjgfacaaPaD
namespace Go.Proofs.Ytkmbophbjgfacaa.Ph
set_option linter.unusedVariables false
open Go.ChangeShapes Go.WideShapes Go.ChangeAt Go.RowKit
open BigFrame
open Ar
def lsS (D : List ByteArray) : List (List UInt8) := D.map (·.data.toList)
theorem lsS_all (D : List ByteArray) : (lsS D).all nm = D.all nb := by
  induction D with
  | nil => rfl
  | cons x r ih => unfold lsS at ih ⊢; rw [List.map_cons, List.all_cons, List.all_cons, ih]; rfl
theorem lsS_back (D : List ByteArray) : (lsS D).map bsL = D := by
  induction D with
  | nil => rfl
  | cons x r ih => unfold lsS at ih ⊢; rw [List.map_cons, List.map_cons, ih]; rfl
theorem lsS_of (l : List (List UInt8)) : lsS (l.map bsL) = l := by
  induction l with
  | nil => rfl
  | cons x r ih => unfold lsS at ih ⊢; rw [List.map_cons, List.map_cons, ih]; rfl
/-- the path of names, and which error -/
def jnB (D : List ByteArray) : ByteArray := bsL (jnP (lsS D))
def jnX (D : List ByteArray) : Int := jnE (lsS D)
theorem joB_size (D : List ByteArray) : (joB D).size = (joi (lsS D)).length := by show (joi _).toArray.size = _; rw [List.size_toArray]; rfl
theorem jn_bad {D : List ByteArray} (h : D.all nb = false) : jnX D = 10 ∧ jnB D = ByteArray.empty := by
  have e : jnX D = 10 := by unfold jnX jnE; rw [lsS_all, if_pos h]
  refine ⟨e, ?_⟩
  unfold jnB
  rw [jn_err (by unfold jnX at e; rw [e]; decide)]; rfl
theorem jn_long {D : List ByteArray} (h : D.all nb = true) (h2 : 256 < 1 + (joB D).size) : jnX D = 2 ∧ jnB D = ByteArray.empty := by
  have e : jnX D = 2 := by unfold jnX jnE; rw [lsS_all, if_neg (by rw [h]; decide), if_pos (by rw [List.length_cons, ← joB_size]; omega)]
  refine ⟨e, ?_⟩
  unfold jnB
  rw [jn_err (by unfold jnX at e; rw [e]; decide)]; rfl
theorem jn_yes {D : List ByteArray} (h : D.all nb = true) (h2 : 1 + (joB D).size ≤ 256) : jnX D = 0 ∧ jnB D = ⟨#[47]⟩ ++ joB D := by
  have e := jn_of (ls := lsS D) (by rw [lsS_all]; exact h) (by rw [List.length_cons, ← joB_size]; omega)
  refine ⟨e.2, ?_⟩
  unfold jnB
  rw [e.1]
  apply ba_ext
  rw [ByteArray.data_append, Array.toList_append]; rfl
theorem joi_le : ∀ ls : List (List UInt8), ls.all nm = true → (joi ls).length ≤ 25 * ls.length
  | [], _ => Nat.le_refl _
  | x :: r, h => by
    rw [List.all_cons, Bool.and_eq_true] at h
    have h1 := (nm_len h.1).2
    have h2 := joi_le r h.2
    unfold joi
    split
    · simp; omega
    · simp; omega
theorem joB_le {D : List ByteArray} (h : D.all nb = true) : (joB D).size ≤ 25 * D.length := by
  rw [joB_size]
  have := joi_le (lsS D) (by rw [lsS_all]; exact h)
  rw [show (lsS D).length = D.length from List.length_map ..] at this
  exact this
set_option maxHeartbeats 1000000 in
theorem join_any (D : List ByteArray) (A : Option Addr) (n c B : Nat) (hn : n = D.length) (hc : n ≤ c) (hm : n ≤ 1099511627776) (w : World) (hB : B ≤ w.heap.size) (hD : Ls en1 1 w B A D) :
    Calls Try.prog 22 #[.slice A n c] w fun e w' => e = .returned (.tuple #[.string (jnB D), .int .i64 (jnX D)]) ∧ Below w.heap.size w w' := by
  have HA := Lib.hid (allNames_any D A n c B hn (by omega) w hB hD)
  cases hq : D.all nb
  · rw [hq] at HA
    have HS := Lib.hid (jn_bad hq)
    clear hq hD hn
    go_enter Try.func22, Try.ntmps22
    go_wp2_with (go_at_call 41; refine HA.out.mono ?_; rintro e w' ⟨rfl, rfl⟩)
    go_ret2
    exact ⟨by rw [HS.out.1, HS.out.2]; rfl, Below.refl _ _⟩
  · rw [hq] at HA
    have hle := joB_le hq
    have HJ := Lib.hid (joinS_any D A n c B hn hc (by omega) (by omega) w hB hD)
    have HY := Lib.hid (jn_yes hq)
    have HL := Lib.hid (jn_long hq)
    clear hq hD
    have hz : (joB D).size ≤ 27487790694400 := by omega
    clear hle hn
    generalize hG : joB D = t at *
    by_cases hl : 1 + t.size ≤ 256
    · have d1 : decide (256 < 1 + (t.size : Int)) = false := by simp; omega
      have d2 : decide (256 < (t.size : Int) + 1) = false := by simp; omega
      have HS := Lib.hid (HY.out hl)
      clear HY HL hG
      go_enter Try.func22, Try.ntmps22
      go_wp2_with (first
        | (go_at_call 41; refine HA.out.mono ?_; rintro e w' ⟨rfl, rfl⟩)
        | (go_at_call 43; refine HJ.out.mono ?_; rintro e w' ⟨rfl, hb⟩))
      go_ret2
      exact ⟨by rw [HS.out.1, HS.out.2]; rfl, hb⟩
    · have d1 : decide (256 < 1 + (t.size : Int)) = true := by simp; omega
      have d2 : decide (256 < (t.size : Int) + 1) = true := by simp; omega
      have HS := Lib.hid (HL.out (by omega))
      clear HY HL hG
      go_enter Try.func22, Try.ntmps22
      go_wp2_with (first
        | (go_at_call 41; refine HA.out.mono ?_; rintro e w' ⟨rfl, rfl⟩)
        | (go_at_call 43; refine HJ.out.mono ?_; rintro e w' ⟨rfl, hb⟩))
      go_ret2
      exact ⟨by rw [HS.out.1, HS.out.2]; rfl, hb⟩
/-- slashes and names -/
def sl (D : List ByteArray) : ByteArray := bsL (D.flatMap fun x => 47 :: x.data.toList)
theorem sl_next (D : List ByteArray) (x : ByteArray) : sl (D ++ [x]) = sl D ++ (⟨#[47]⟩ ++ x) := by
  apply ba_ext
  unfold sl
  rw [ByteArray.data_append, Array.toList_append, ByteArray.data_append, Array.toList_append, bsL_list, bsL_list, List.flatMap_append]
  simp
theorem sl_eq : ∀ D : List ByteArray, D ≠ [] → 47 :: joi (lsS D) = D.flatMap fun x => 47 :: x.data.toList
  | [], h => absurd rfl h
  | [x], _ => by simp [lsS, joi]
  | x :: y :: r, _ => by
    have ih := sl_eq (y :: r) (by simp)
    have e : lsS (x :: y :: r) = x.data.toList :: lsS (y :: r) := rfl
    rw [e, joi_cons (by simp [lsS]), ih]
    simp
theorem sl_mono (D : List ByteArray) (k : Nat) : (sl (D.take k)).size ≤ (sl D).size := by
  have e : ∀ D, (sl D).size = (D.flatMap fun x => 47 :: x.data.toList).length := fun D => by show (List.toArray _).size = _; rw [List.size_toArray]
  rw [e, e]
  conv => rhs; rw [← List.take_append_drop k D]
  rw [List.flatMap_append, List.length_append]
  omega
theorem sl_joB {D : List ByteArray} (h : D ≠ []) : sl D = ⟨#[47]⟩ ++ joB D ∧ (sl D).size = 1 + (joB D).size := by
  have e : sl D = ⟨#[47]⟩ ++ joB D := by
    apply ba_ext
    rw [ByteArray.data_append, Array.toList_append]
    exact (sl_eq D h).symm
  refine ⟨e, ?_⟩
  rw [e, ByteArray.size_append]; rfl
set_option maxRecDepth 100000 in
set_option maxHeartbeats 2000000 in
theorem refJoin_any (D : List ByteArray) (A : Option Addr) (n c B : Nat) (hn : n = D.length) (hc : n ≤ c) (hm : n ≤ 1099511627776) (hs : ∀ s ∈ D, s.size ≤ maxLen) (w : World) (hB : B ≤ w.heap.size) (hD : Ls en1 1 w B A D) :
    Calls Try.prog 23 #[.slice A n c] w fun e w' => e = .returned (.tuple #[.string (jnB D), .int .i64 (jnX D)]) ∧ w = w' := by
  have HN := Lib.hid hn
  have HD := Lib.hid hD
  have HS := Lib.hid hs
  clear hn hD hs
  go_enter Try.func23, Try.ntmps23
  go_wp2_with fail
  go_loop [11] (fun v => ∃ i : Nat, i ≤ n ∧ v = .int .i64 i ∧ Hid ((D.take i).all nb = true)) (fun v => n - (intOf v).toNat)
  case atStart => exact ⟨0, Nat.zero_le _, by go_num, Lib.hid rfl⟩
  case round =>
    obtain ⟨i, hi, rfl, HI⟩ := hrel
    by_cases hlt : i < n
    · obtain ⟨x, hx⟩ : ∃ x, D[i]? = some x := ⟨_, List.getElem?_eq_getElem (by rw [← HN.out]; exact hlt)⟩
      obtain ⟨b, o, hAe, hb, hc⟩ := one_cell HD.out hx
      have hbs : b < w.heap.size := by omega
      clear HD
      subst hAe
      have HX := Lib.hid hx
      have HC := Lib.hid (fun w => refName_any x w (HS.out x (List.mem_of_getElem? hx)))
      clear hx HS
      cases hq : nb x
      · rw [hq] at HC
        have HE := Lib.hid (jn_bad (all_no_of HX.out hq))
        clear hq HI
        go_wp2_with (go_at_call 21; refine (HC.out _).mono ?_; rintro e w' ⟨rfl, rfl⟩)
        go_ret2
        exact ⟨by rw [HE.out.1, HE.out.2]; rfl, rfl⟩
      · rw [hq] at HC
        have HE := Lib.hid ((all_take HX.out (Hid.out HI)).trans hq)
        clear hq HI
        go_wp2_with (go_at_call 21; refine (HC.out _).mono ?_; rintro e w' ⟨rfl, rfl⟩)
        refine ⟨⟨i + 1, by omega, by go_num, HE⟩, ?_⟩
        simp [intOf]; omega
    · obtain rfl : i = n := by omega
      rw [List.take_of_length_le (by rw [← HN.out]; exact Nat.le_refl _)] at HI
      by_cases h0 : i = 0
      · have hd : D = [] := List.eq_nil_of_length_eq_zero (by rw [← HN.out]; exact h0)
        have HE := Lib.hid (show jnX D = 0 ∧ jnB D = ⟨#[47]⟩ by subst hd; exact ⟨rfl, rfl⟩)
        have d0 : ((i : Int) == 0) = true := by rw [beq_iff_eq]; omega
        clear hd HI HN HS HD
        go_wp2
        go_ret2
        exact ⟨by rw [HE.out.1, HE.out.2]; rfl, rfl⟩
      · have d0 : ((i : Int) == 0) = false := by rw [beq_eq_false_iff_ne]; omega
        have hne : D ≠ [] := by rintro rfl; have := HN.out; simp at this; omega
        have HJ := Lib.hid (sl_joB hne)
        have HY := Lib.hid (jn_yes (Hid.out HI))
        have HL := Lib.hid (jn_long (Hid.out HI))
        have HQ := Lib.hid (Hid.out HI)
        clear h0 HI hne
        go_wp2_with fail
        go_loop [6, 24] (fun sv v => ∃ (i2 : Nat) (t : ByteArray), i2 ≤ i ∧ v = .int .i64 i2 ∧ sv = .string t ∧ Hid (t = sl (D.take i2)) ∧ t.size ≤ 256) (fun _ v => i - (intOf v).toNat)
        case atStart => exact ⟨0, ByteArray.empty, Nat.zero_le _, by go_num, rfl, Lib.hid rfl, Nat.zero_le _⟩
        case round =>
          obtain ⟨k, t, hk, rfl, rfl, HT, hts⟩ := hrel
          by_cases hlt2 : k < i
          · obtain ⟨x, hx⟩ : ∃ x, D[k]? = some x := ⟨_, List.getElem?_eq_getElem (by rw [← HN.out]; exact hlt2)⟩
            obtain ⟨b, o, hAe, hb, hc⟩ := one_cell HD.out hx
            have hbs : b < w.heap.size := by omega
            have hxs : x.size ≤ 24 := by
              have := List.all_eq_true.1 HQ.out x (List.mem_of_getElem? hx)
              have := (nm_len this).2
              rw [sz_len] at this; exact this
            have HT2 := Lib.hid (show t ++ (⟨#[47]⟩ ++ x) = sl (D.take (k + 1)) by
              obtain ⟨hi2, he⟩ := List.getElem?_eq_some_iff.1 hx
              rw [List.take_succ_eq_append_getElem hi2, sl_next, ← Hid.out HT, he])
            have hsz : (t ++ (⟨#[47]⟩ ++ x)).size = t.size + (1 + x.size) := by rw [ByteArray.size_append, ByteArray.size_append]; rfl
            have hmono := sl_mono D (k + 1)
            rw [← HT2.out, hsz] at hmono
            clear HD hx
            subst hAe
            by_cases hbig : t.size + (1 + x.size) ≤ 256
            · have d1 : decide (256 < (t.size : Int) + (1 + (x.size : Int))) = false := by simp; omega
              clear hmono
              go_wp2_with fail
              refine ⟨⟨k + 1, _, by omega, by go_num, rfl, HT2, by rw [hsz]; exact hbig⟩, ?_⟩
              simp [intOf]; omega
            · have d1 : decide (256 < (t.size : Int) + (1 + (x.size : Int))) = true := by simp; omega
              have HE := Lib.hid (HL.out (by have := HJ.out.2; omega))
              clear hmono
              go_wp2_with fail
              go_ret2
              exact ⟨by rw [HE.out.1, HE.out.2]; rfl, rfl⟩
          · obtain rfl : k = i := by omega
            have HT3 := Lib.hid (show t = sl D by rw [Hid.out HT, List.take_of_length_le (by rw [← HN.out]; exact Nat.le_refl _)])
            have HE := Lib.hid (HY.out (by rw [← HJ.out.2, ← HT3.out]; exact hts))
            have HR := Lib.hid (show t = ⟨#[47]⟩ ++ joB D by rw [HT3.out, HJ.out.1])
            clear HT
            go_wp2
            go_ret2
            exact ⟨by rw [HE.out.1, HE.out.2, ← HR.out]; rfl, rfl⟩
theorem unB_iff {D E : List ByteArray} : unB D E = true ↔ E.take D.length = D := by unfold unB; simp
set_option maxHeartbeats 1000000 in
theorem under_any (D E : List ByteArray) (A A' : Option Addr) (n c m c' B B' : Nat) (hn : n = D.length) (hm : m = E.length) (hc : n ≤ c) (hc' : m ≤ c') (h1 : c ≤ maxLen) (h2 : c' ≤ maxLen) (w : World) (hD : Ls en1 1 w B A D) (hE : Ls en1 1 w B' A' E) :
    Calls Try.prog 24 #[.slice A n c, .slice A' m c'] w fun e w' => e = .returned (.bool (unB D E)) ∧ ∃ q, w' = w.drewN q := by
  unfold maxLen at h1 h2
  by_cases hle : n ≤ m
  · have HQ := Lib.hid (fun cc => equalS_any D (E.take n) A A' n c n cc B B' hn (by rw [List.length_take]; omega) (by omega) (by omega) w hD (hE.take n))
    have HU := Lib.hid (show decide (D = E.take n) = unB D E by unfold unB; rw [hn]; exact decide_eq_decide.2 ⟨fun h => h.symm, fun h => h.symm⟩)
    have hcn : n ≤ c' := by omega
    clear hD hE hn hm
    go_enter Try.func24, Try.ntmps24
    go_wp2_with (go_at_call 44; refine (HQ.out _).mono ?_; rintro e w' ⟨rfl, q, rfl⟩)
    go_ret
    exact ⟨by rw [← HU.out]; rfl, q, rfl⟩
  · have hd : decide (n ≤ m) = false := by simp; omega
    have HU := Lib.hid (show unB D E = false by
      unfold unB
      rw [decide_eq_false_iff_not]
      intro h
      have := congrArg List.length h
      rw [List.length_take] at this
      omega)
    clear hD hE hn hm
    go_enter Try.func24, Try.ntmps24
    go_wp2
    go_ret
    exact ⟨by rw [HU.out]; rfl, 0, by cases w; rfl⟩
theorem str_ne {x y : ByteArray} (h : x ≠ y) : (x.toList == y.toList) = false ∧ (x.toList != y.toList) = true := by
  have : (x.toList == y.toList) = false := by
    rw [beq_eq_false_iff_ne, tl, tl]
    exact fun e => h (ba_ext e)
  exact ⟨this, by rw [bne, this]; rfl⟩
theorem str_eq {x y : ByteArray} (h : x = y) : (x.toList == y.toList) = true ∧ (x.toList != y.toList) = false := by
  subst h
  have : (x.toList == x.toList) = true := beq_self_eq_true _
  exact ⟨this, by rw [bne, this]; rfl⟩
theorem un_step {D E : List ByteArray} {i : Nat} {x : ByteArray} (hx : D[i]? = some x) (hy : E[i]? = some x) (h : E.take i = D.take i) : E.take (i + 1) = D.take (i + 1) := by
  obtain ⟨h1, h2⟩ := List.getElem?_eq_some_iff.1 hx
  obtain ⟨h3, h4⟩ := List.getElem?_eq_some_iff.1 hy
  rw [List.take_succ_eq_append_getElem h1, List.take_succ_eq_append_getElem h3, h, h2, h4]
theorem un_no {D E : List ByteArray} {i : Nat} {x : ByteArray} (hx : D[i]? = some x) (hy : E[i]? ≠ some x) : unB D E = false := by
  unfold unB
  rw [decide_eq_false_iff_not]
  intro h
  apply hy
  have hl := (List.getElem?_eq_some_iff.1 hx).1
  have := congrArg (fun l => l[i]?) h
  simp only [List.getElem?_take, hl, if_true] at this
  rw [this, hx]
set_option maxHeartbeats 1000000 in
theorem refUnder_any (D E : List ByteArray) (A A' : Option Addr) (n c m c' B B' : Nat) (hn : n = D.length) (hm : m = E.length) (hc : n ≤ c) (hc' : m ≤ c') (h1 : c ≤ maxLen) (h2 : c' ≤ maxLen) (w : World) (hB : B ≤ w.heap.size) (hB' : B' ≤ w.heap.size) (hD : Ls en1 1 w B A D) (hE : Ls en1 1 w B' A' E) :
    Calls Try.prog 25 #[.slice A n c, .slice A' m c'] w fun e w' => e = .returned (.bool (unB D E)) ∧ w = w' := by
  unfold maxLen at h1 h2
  have HN := Lib.hid hn
  have HM := Lib.hid hm
  have HD := Lib.hid hD
  have HE := Lib.hid hE
  clear hn hm hD hE
  go_enter Try.func25, Try.ntmps25
  go_wp2_with fail
  go_loop [9] (fun v => ∃ i : Nat, i ≤ n ∧ v = .int .i64 i ∧ Hid (E.take i = D.take i)) (fun v => n - (intOf v).toNat)
  case atStart => exact ⟨0, Nat.zero_le _, by go_num, Lib.hid rfl⟩
  case round =>
    obtain ⟨i, hi, rfl, HI⟩ := hrel
    by_cases hlt : i < n
    · obtain ⟨x, hx⟩ : ∃ x, D[i]? = some x := ⟨_, List.getElem?_eq_getElem (by rw [← HN.out]; exact hlt)⟩
      obtain ⟨b, o, hAe, hb, hcx⟩ := one_cell HD.out hx
      have hbs : b < w.heap.size := by omega
      clear HD
      subst hAe
      by_cases him : i < m
      · have d1 : decide (m ≤ i) = false := by simp; omega
        obtain ⟨y, hy⟩ : ∃ y, E[i]? = some y := ⟨_, List.getElem?_eq_getElem (by rw [← HM.out]; exact him)⟩
        obtain ⟨b', o', hAe, hb', hcy⟩ := one_cell HE.out hy
        clear HE
        subst hAe
        by_cases hxy : y = x
        · obtain ⟨s1, s2⟩ := str_eq hxy
          have HI2 := Lib.hid (un_step hx (hxy ▸ hy) (Hid.out HI))
          clear hxy hx hy HI
          go_wp2_with fail
          refine ⟨⟨i + 1, by omega, by go_num, HI2⟩, ?_⟩
          simp [intOf]; omega
        · obtain ⟨s1, s2⟩ := str_ne hxy
          have HU := Lib.hid (un_no hx (E := E) (by rw [hy]; intro h; exact hxy (by injection h)))
          clear hxy hx hy HI
          go_wp2_with fail
          go_ret
          exact ⟨by rw [HU.out]; rfl, rfl⟩
      · have d1 : decide (m ≤ i) = true := by simp; omega
        have HU := Lib.hid (un_no hx (E := E) (by rw [List.getElem?_eq_none (by rw [← HM.out]; omega)]; intro h; cases h))
        clear hx HI HE
        go_wp2_with fail
        go_ret
        exact ⟨by rw [HU.out]; rfl, rfl⟩
    · obtain rfl : i = n := by omega
      have HU := Lib.hid (show unB D E = true from unB_iff.2 (by
        have := Hid.out HI
        rw [HN.out, List.take_length] at this
        exact this))
      clear HI
      go_wp2_with fail
      go_ret
      exact ⟨by rw [HU.out]; rfl, rfl⟩
theorem refSame_any (D E : List ByteArray) (A A' : Option Addr) (n c m c' B B' : Nat) (hn : n = D.length) (hm : m = E.length) (hc : n ≤ c) (hc' : m ≤ c') (h1 : c ≤ maxLen) (h2 : c' ≤ maxLen) (w : World) (hB : B ≤ w.heap.size) (hB' : B' ≤ w.heap.size) (hD : Ls en1 1 w B A D) (hE : Ls en1 1 w B' A' E) :
    Calls Try.prog 19 #[.slice A n c, .slice A' m c'] w fun e w' => e = .returned (.bool (decide (D = E))) ∧ w = w' := by
  have HC := Lib.hid (refUnder_any D E A A' n c m c' B B' hn hm hc hc' h1 h2 w hB hB' hD hE)
  unfold maxLen at h1 h2
  by_cases he : n = m
  · have d : ((n : Int) == (m : Int)) = true := by rw [beq_iff_eq]; omega
    have HU := Lib.hid (show unB D E = decide (D = E) by
      unfold unB
      rw [← hn, he, hm, List.take_length]
      exact decide_eq_decide.2 ⟨fun h => h.symm, fun h => h.symm⟩)
    clear hD hE hn hm
    subst he
    go_enter Try.func19, Try.ntmps19
    go_wp2_with (go_at_call 25; refine HC.out.mono ?_; rintro e w' ⟨rfl, rfl⟩)
    go_ret
    exact ⟨by rw [← HU.out]; rfl, rfl⟩
  · have d : ((n : Int) == (m : Int)) = false := by rw [beq_eq_false_iff_ne]; omega
    have HU := Lib.hid (show decide (D = E) = false by
      rw [decide_eq_false_iff_not]
      rintro rfl
      exact he (hn.trans hm.symm))
    clear hD hE hn hm he
    go_enter Try.func19, Try.ntmps19
    go_wp2
    go_ret
    exact ⟨by rw [HU.out]; rfl, rfl⟩
end Go.Proofs.Ytkmbophbjgfacaa.Ph
