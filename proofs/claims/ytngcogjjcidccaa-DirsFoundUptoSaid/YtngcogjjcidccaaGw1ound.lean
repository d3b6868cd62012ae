/- The walks of DirsLinks and DirsWay. -/
import Derived.Test.YtngcogjjcidccaaGb2
namespace Go.Proofs.Ytngcogjjcidccaa.Di
set_option linter.unusedVariables false
set_option linter.unusedSimpArgs false
set_option maxRecDepth 100000
open Go.ChangeShapes Go.WideShapes Go.ChangeAt Go.RowKit
open BigFrame
open Ar Rg
open Ino
open It (Itm)
open Ph (en1 en1_len spX spB)
variable {w w' wr : World} {L : List Itm}
theorem ent_ino (h : rgt L = true) (k : Ky) (j : Nat) (he : (vo (pts L)).ent k = some j) : ((vo (pts L)).ino j).isSome = true := by
  obtain ⟨p, hp, h2, rfl, rfl⟩ := ent_of _ he
  obtain ⟨n, hn⟩ := (stray_2 ((rgt_iff.1 h).str p hp) h2).2
  rw [he] at hn
  show ((vo (pts L)).ino (numOf p.v)).isSome = true
  have hn' : (vo (pts L)).ino (numOf p.v) = some n := hn
  rw [hn']; rfl
theorem ent_lt (k : Ky) (j : Nat) (he : (vo (pts L)).ent k = some j) : j < 4294967296 := by
  obtain ⟨p, _, _, _, rfl⟩ := ent_of _ he
  exact numOf_lt _
theorem wkN_lt {s : Vo} {fo : Bool} {nx : ByteArray → List ByteArray → Nat × Int} (hE : ∀ k j, s.ent k = some j → j < 4294967296) (hx : ∀ t ys, (nx t ys).1 < 4294967296) : ∀ (xs : List ByteArray) (a : Nat), a < 4294967296 → (wkN s fo nx a xs).1 < 4294967296
  | [], a, ha => ha
  | x :: xs, a, ha => by
    simp only [wkN]
    by_cases hk : kind s a ≠ 1
    · rw [if_pos hk]; exact (by decide : (0 : Nat) < 4294967296)
    · rw [if_neg hk]
      cases he : s.ent ⟨2, a, x, 0⟩ with
      | none => exact (by decide : (0 : Nat) < 4294967296)
      | some j =>
        dsimp only
        by_cases hc : (decide (kind s j ≠ 3) || (xs.isEmpty && !fo)) = true
        · rw [if_pos hc]; exact wkN_lt hE hx xs j (hE _ _ he)
        · rw [if_neg hc]; exact hx _ _
theorem wkL_lt {s : Vo} {fo : Bool} (hE : ∀ k j, s.ent k = some j → j < 4294967296) : ∀ (r : Nat) (xs : List ByteArray) (a : Nat), a < 4294967296 → (wkL s fo r a xs).1 < 4294967296
  | 0, xs, a, ha => wkN_lt hE (fun _ _ => (by decide : (0 : Nat) < 4294967296)) xs a ha
  | r + 1, xs, a, ha => wkN_lt hE (fun t ys => by
    split
    · exact wkL_lt hE r _ 1 (by decide)
    · exact (by decide : (0 : Nat) < 4294967296)) xs a ha
theorem wlk_lt (L : List Itm) (fo : Bool) (names : List ByteArray) : (wlk L fo names).1 < 4294967296 := by
  unfold wlk
  split
  · exact wkL_lt (fun k j h => ent_lt k j h) 8 names 1 (by decide)
  · exact (by decide : (0 : Nat) < 4294967296)
theorem gt_of (h : rgt L = true) {i : Nat} (hi : ((vo (pts L)).ino i).isSome = true) : gtE L i = 0 ∧ (gtI L i).K = kind (vo (pts L)) i := by
  unfold gtE gtI
  rw [h, if_pos rfl, if_pos rfl, if_pos hi, kind_get]
  exact ⟨rfl, rfl⟩
theorem kind_is {s : Vo} {i : Nat} (h : kind s i ≠ 0) : (s.ino i).isSome = true := by
  obtain ⟨n, hn, _⟩ := kind_some h
  rw [hn]; rfl
theorem root_is (h : rgt L = true) : kind (vo (pts L)) 1 = 1 ∧ ((vo (pts L)).ino 1).isSome = true := ⟨(rgt_iff.1 h).root, kind_is (by rw [(rgt_iff.1 h).root]; decide)⟩
theorem lnk_facts (L : List Itm) (names : List ByteArray) : ((wlk L true names).2 = 0 → gtE L (wlk L true names).1 = 0 ∧ (gtI L (wlk L true names).1).K ≠ 3 ∧ (wlk L false names).2 = 0) ∧ ((wlk L false names).2 ≠ 0 → (wlk L true names).2 = (wlk L false names).2) ∧
    ((wlk L false names).2 = 0 → gtE L (wlk L false names).1 = 0 ∧ ((gtI L (wlk L false names).1).K = 3 ∨ ((wlk L true names).2 = 0 ∧ (wlk L true names).1 = (wlk L false names).1))) := by
  unfold wlk
  cases hr : rgt L
  · refine ⟨fun h => ?_, fun _ => rfl, fun h => ?_⟩
    · cases h
    · cases h
  · simp only [if_true]
    have h := wkL_lnk (vo (pts L)) (fun k j he => ent_ino hr k j he) (root_is hr).1 8 names 1 (by rw [(root_is hr).1]; decide) (root_is hr).2
    refine ⟨fun h1 => ?_, h.2.1, fun h1 => ?_⟩
    · obtain ⟨a, b, c⟩ := h.1 h1
      have g := gt_of hr b
      exact ⟨g.1, by rw [g.2]; exact a, c⟩
    · obtain ⟨a, b⟩ := h.2.2 h1
      have g := gt_of hr a
      exact ⟨g.1, by rw [g.2]; exact b⟩
set_option maxHeartbeats 4000000 in
theorem dirsLinks_walk {A A' : Option Addr} {n n' c' : Nat} (c : Nat) {names : List ByteArray} (h : ItA w A n L) (hN : NmA w A' n' c' names) :
    Calls Try.prog 4 #[.slice A n c, .slice A' n' c'] w fun e w' => e = .returned (.bool true) ∧ Below w.heap.size w w' := by
  have HLV := Lib.hid (lives_any w)
  have HW := Lib.hid (fun (wx : World) (hb : Below w.heap.size w wx) => Walk_any c true (h.go hb) (hN.go hb))
  have HV := Lib.hid (fun (wx : World) (hb : Below w.heap.size w wx) => Walk_any c false (h.go hb) (hN.go hb))
  obtain ⟨f1, f2, f3⟩ := lnk_facts L names
  have l1 := wlk_lt L true names
  have l2 := wlk_lt L false names
  generalize wlk L true names = P at *
  generalize wlk L false names = Q at *
  obtain ⟨a, x⟩ := P
  obtain ⟨b, y⟩ := Q
  dsimp only at f1 f2 f3 l1 l2 HW HV
  have HG := Lib.hid (fun (wx : World) (hb : Below w.heap.size w wx) (i : Nat) (hi : i < 4294967296) => Get_any c i hi (h.go hb))
  have F1 := Lib.hid f1
  have F2 := Lib.hid f2
  have F3 := Lib.hid f3
  clear h hN f1 f2 f3
  by_cases hy : y = 0
  · subst hy
    obtain ⟨gb, hb3⟩ := F3.out rfl
    have HGB := Lib.hid (fun (wx : World) (hb : Below w.heap.size w wx) => HG.out wx hb b l2)
    obtain ⟨nb, hnb⟩ : ∃ nb, gtI L b = nb := ⟨_, rfl⟩
    rw [gb, hnb] at HGB
    rw [hnb] at hb3
    have HB3 := Lib.hid hb3
    obtain ⟨bK, bM, bL, bS, bT⟩ := nb
    unfold vI at HGB
    dsimp only at HGB HB3
    clear gb hb3 hnb
    by_cases hx : x = 0
    · subst hx
      obtain ⟨ga, ha3, _⟩ := F1.out rfl
      have HGA := Lib.hid (fun (wx : World) (hb : Below w.heap.size w wx) => HG.out wx hb a l1)
      obtain ⟨na, hna⟩ : ∃ na, gtI L a = na := ⟨_, rfl⟩
      rw [ga, hna] at HGA
      rw [hna] at ha3
      obtain ⟨aK, aM, aL, aS, aT⟩ := na
      unfold vI at HGA
      dsimp only at HGA ha3
      have e3 : ((aK : Int) == 3) = false := eqz3 (decide_eq_false ha3)
      clear ga ha3 hna F1 F2 F3 HG
      by_cases hb3 : bK = 3
      · have e4 : ((bK : Int) == 3) = true := eqz3 (decide_eq_true hb3)
        clear hb3 HB3
        go_enter Try.func4, Try.ntmps4
        go_wp2_with (first
          | (go_at_call 7; (with_reducible refine HLV.out.mono ?_); rintro e w1 ⟨rfl, hb⟩; have HB1 := Lib.hid hb; clear hb)
          | (go_at_call 8; (with_reducible refine (HW.out _ HB1.out).mono ?_); rintro e w2 ⟨rfl, hb⟩; have HB2 := Lib.hid (HB1.out.trans (hb.mono HB1.out.size)); clear hb)
          | (go_at_call 8; (with_reducible refine (HV.out _ HB2.out).mono ?_); rintro e w3 ⟨rfl, hb⟩; have HB3 := Lib.hid (HB2.out.trans (hb.mono HB2.out.size)); clear hb)
          | (go_at_call 10; (with_reducible refine (HGA.out _ HB3.out).mono ?_); rintro e w4 ⟨rfl, hb⟩; have HB4 := Lib.hid (HB3.out.trans (hb.mono HB3.out.size)); clear hb; have ka : (w4.alloc (.cells #[.int .u8 aK, .int .u16 aM, .int .u32 aL, .int .u32 aS, .string aT] 37)).cell? ⟨w4.heap.size, 0, none⟩ = some (.int .u8 aK) := cell_of_row _ _ 0 _ _ _ (heap_alloc_new w4 _); have HC4 := Lib.hid (HB4.out.alloc HB4.out.size (.cells #[.int .u8 aK, .int .u16 aM, .int .u32 aL, .int .u32 aS, .string aT] 37)))
          | (go_at_call 10; (with_reducible refine (HGB.out _ HC4.out).mono ?_); rintro e w5 ⟨rfl, hb⟩; have HB5 := Lib.hid (HC4.out.trans (hb.mono HC4.out.size)); clear hb; have kb : (w5.alloc (.cells #[.int .u8 bK, .int .u16 bM, .int .u32 bL, .int .u32 bS, .string bT] 37)).cell? ⟨w5.heap.size, 0, none⟩ = some (.int .u8 bK) := cell_of_row _ _ 0 _ _ _ (heap_alloc_new w5 _); have HC5 := Lib.hid (HB5.out.alloc HB5.out.size (.cells #[.int .u8 bK, .int .u16 bM, .int .u32 bL, .int .u32 bS, .string bT] 37))))
        go_ret
        exact ⟨rfl, HC5.out⟩
      · have e4 : ((bK : Int) == 3) = false := eqz3 (decide_eq_false hb3)
        obtain rfl : a = b := by
          rcases HB3.out with h | h
          · exact absurd h hb3
          · exact h.2
        clear hb3 HB3
        go_enter Try.func4, Try.ntmps4
        go_wp2_with (first
          | (go_at_call 7; (with_reducible refine HLV.out.mono ?_); rintro e w1 ⟨rfl, hb⟩; have HB1 := Lib.hid hb; clear hb)
          | (go_at_call 8; (with_reducible refine (HW.out _ HB1.out).mono ?_); rintro e w2 ⟨rfl, hb⟩; have HB2 := Lib.hid (HB1.out.trans (hb.mono HB1.out.size)); clear hb)
          | (go_at_call 8; (with_reducible refine (HV.out _ HB2.out).mono ?_); rintro e w3 ⟨rfl, hb⟩; have HB3 := Lib.hid (HB2.out.trans (hb.mono HB2.out.size)); clear hb)
          | (go_at_call 10; (with_reducible refine (HGA.out _ HB3.out).mono ?_); rintro e w4 ⟨rfl, hb⟩; have HB4 := Lib.hid (HB3.out.trans (hb.mono HB3.out.size)); clear hb; have ka : (w4.alloc (.cells #[.int .u8 aK, .int .u16 aM, .int .u32 aL, .int .u32 aS, .string aT] 37)).cell? ⟨w4.heap.size, 0, none⟩ = some (.int .u8 aK) := cell_of_row _ _ 0 _ _ _ (heap_alloc_new w4 _); have HC4 := Lib.hid (HB4.out.alloc HB4.out.size (.cells #[.int .u8 aK, .int .u16 aM, .int .u32 aL, .int .u32 aS, .string aT] 37)))
          | (go_at_call 10; (with_reducible refine (HGB.out _ HC4.out).mono ?_); rintro e w5 ⟨rfl, hb⟩; have HB5 := Lib.hid (HC4.out.trans (hb.mono HC4.out.size)); clear hb; have kb : (w5.alloc (.cells #[.int .u8 bK, .int .u16 bM, .int .u32 bL, .int .u32 bS, .string bT] 37)).cell? ⟨w5.heap.size, 0, none⟩ = some (.int .u8 bK) := cell_of_row _ _ 0 _ _ _ (heap_alloc_new w5 _); have HC5 := Lib.hid (HB5.out.alloc HB5.out.size (.cells #[.int .u8 bK, .int .u16 bM, .int .u32 bL, .int .u32 bS, .string bT] 37))))
        go_ret
        exact ⟨rfl, HC5.out⟩
    · have hb3 : bK = 3 := by
        rcases HB3.out with h | h
        · exact h
        · exact absurd h.1 hx
      have e4 : ((bK : Int) == 3) = true := eqz3 (decide_eq_true hb3)
      have e5 : (x == 0) = false := by rw [eq0]; exact decide_eq_false hx
      clear hb3 HB3 hx
      go_enter Try.func4, Try.ntmps4
      go_wp2_with (first
        | (go_at_call 7; (with_reducible refine HLV.out.mono ?_); rintro e w1 ⟨rfl, hb⟩; have HB1 := Lib.hid hb; clear hb)
        | (go_at_call 8; (with_reducible refine (HW.out _ HB1.out).mono ?_); rintro e w2 ⟨rfl, hb⟩; have HB2 := Lib.hid (HB1.out.trans (hb.mono HB1.out.size)); clear hb)
        | (go_at_call 8; (with_reducible refine (HV.out _ HB2.out).mono ?_); rintro e w3 ⟨rfl, hb⟩; have HB3 := Lib.hid (HB2.out.trans (hb.mono HB2.out.size)); clear hb)
        | (go_at_call 10; (with_reducible refine (HGB.out _ HB3.out).mono ?_); rintro e w4 ⟨rfl, hb⟩; have HB4 := Lib.hid (HB3.out.trans (hb.mono HB3.out.size)); clear hb; have kb : (w4.alloc (.cells #[.int .u8 bK, .int .u16 bM, .int .u32 bL, .int .u32 bS, .string bT] 37)).cell? ⟨w4.heap.size, 0, none⟩ = some (.int .u8 bK) := cell_of_row _ _ 0 _ _ _ (heap_alloc_new w4 _); have HC4 := Lib.hid (HB4.out.alloc HB4.out.size (.cells #[.int .u8 bK, .int .u16 bM, .int .u32 bL, .int .u32 bS, .string bT] 37))))
      go_ret
      exact ⟨rfl, HC4.out⟩
  · obtain rfl : x = y := F2.out hy
    have e5 : (x == 0) = false := by rw [eq0]; exact decide_eq_false hy
    have e6 : (x != 0) = true := by rw [bne, e5]; rfl
    clear hy
    go_enter Try.func4, Try.ntmps4
    go_wp2_with (first
      | (go_at_call 7; (with_reducible refine HLV.out.mono ?_); rintro e w1 ⟨rfl, hb⟩; have HB1 := Lib.hid hb; clear hb)
      | (go_at_call 8; (with_reducible refine (HW.out _ HB1.out).mono ?_); rintro e w2 ⟨rfl, hb⟩; have HB2 := Lib.hid (HB1.out.trans (hb.mono HB1.out.size)); clear hb)
      | (go_at_call 8; (with_reducible refine (HV.out _ HB2.out).mono ?_); rintro e w3 ⟨rfl, hb⟩; have HB3 := Lib.hid (HB2.out.trans (hb.mono HB2.out.size)); clear hb))
    go_ret
    exact ⟨by simp, HB3.out⟩
end Go.Proofs.Ytngcogjjcidccaa.Di
/- The walk of DirsWay. -/
namespace Go.Proofs.Ytngcogjjcidccaa.Di
set_option linter.unusedVariables false
set_option linter.unusedSimpArgs false
set_option maxRecDepth 100000
open Go.ChangeShapes Go.WideShapes Go.ChangeAt Go.RowKit
open BigFrame
open Ar Rg
open Ino
open It (Itm)
open Ph (en1 en1_len spX spB)
variable {w w' wr : World} {L : List Itm}
theorem way_facts (L : List Itm) (names : List ByteArray) (m : Nat) (hm : m < names.length) (h : (wlk L false names).2 = 0) : (wlk L true (names.take m)).2 = 0 ∧ gtE L (wlk L true (names.take m)).1 = 0 ∧ (gtI L (wlk L true (names.take m)).1).K = 1 := by
  unfold wlk at h ⊢
  cases hr : rgt L
  · rw [hr] at h; cases h
  · rw [hr] at h
    simp only [if_true] at h ⊢
    have e : names = names.take m ++ names[m] :: names.drop (m + 1) := by rw [← List.drop_eq_getElem_cons hm, List.take_append_drop]
    rw [e] at h
    obtain ⟨h1, h2⟩ := wkL_way (vo (pts L)) _ _ 8 (names.take m) 1 h
    have g := gt_of hr (kind_is (show kind (vo (pts L)) (wkL (vo (pts L)) true 8 1 (names.take m)).1 ≠ 0 by rw [h2]; decide))
    exact ⟨h1, g.1, by rw [g.2]; exact h2⟩
set_option maxHeartbeats 4000000 in
theorem dirsWay_walk {A A' : Option Addr} {n n' c' : Nat} (c : Nat) {names : List ByteArray} (h : ItA w A n L) (hN : NmA w A' n' c' names) (q : Int) :
    Calls Try.prog 6 #[.slice A n c, .slice A' n' c', .int .i64 q] w fun e w' => e = .returned (.bool true) ∧ Below w.heap.size w w' := by
  have HLV := Lib.hid (lives_any w)
  by_cases h0 : q < 0
  · have e1 : decide (q < 0) = true := decide_eq_true h0
    clear h hN h0
    go_enter Try.func6, Try.ntmps6
    go_wp2_with (first
      | (go_at_call 7; (with_reducible refine HLV.out.mono ?_); rintro e w1 ⟨rfl, hb⟩; have HB1 := Lib.hid hb; clear hb))
    go_ret
    exact ⟨rfl, HB1.out⟩
  have e1 : decide (q < 0) = false := decide_eq_false h0
  by_cases h1 : (n' : Int) ≤ q
  · have e2 : decide ((n' : Int) ≤ q) = true := decide_eq_true h1
    clear h hN h0 h1
    go_enter Try.func6, Try.ntmps6
    go_wp2_with (first
      | (go_at_call 7; (with_reducible refine HLV.out.mono ?_); rintro e w1 ⟨rfl, hb⟩; have HB1 := Lib.hid hb; clear hb))
    go_ret
    exact ⟨rfl, HB1.out⟩
  have e2 : decide ((n' : Int) ≤ q) = false := decide_eq_false h1
  obtain ⟨m, rfl⟩ := Int.eq_ofNat_of_zero_le (show 0 ≤ q by omega)
  have hm : m < n' := by omega
  clear h0 h1
  have hm' : m < names.length := by have := hN.1; omega
  have HV := Lib.hid (fun (wx : World) (hb : Below w.heap.size w wx) => Walk_any c false (h.go hb) (hN.go hb))
  have hT : NmA w A' m c' (names.take m) := ⟨by rw [List.length_take]; omega, by have := hN.2.1; omega, hN.2.2.1, by have := hN.2.2.2.1; omega, hN.2.2.2.2.1.take m, fun x hx => hN.2.2.2.2.2 x (List.mem_of_mem_take hx)⟩
  have HW := Lib.hid (fun (wx : World) (hb : Below w.heap.size w wx) => Walk_any c true (h.go hb) (hT.go hb))
  have f := way_facts L names m hm'
  have l1 := wlk_lt L true (names.take m)
  have hmc : m ≤ c' := Nat.le_trans (Nat.le_of_lt hm) hN.2.1
  have hm1 : ((m : Int)).toNat = m := rfl
  have hnm : ¬ n' ≤ m := by omega
  generalize wlk L true (names.take m) = P at *
  generalize wlk L false names = Q at *
  obtain ⟨a, x⟩ := P
  obtain ⟨b, y⟩ := Q
  dsimp only at f l1 HW HV
  by_cases hy : y = 0
  · subst hy
    obtain ⟨rfl, ga, ha⟩ := f rfl
    have HGA := Lib.hid (fun (wx : World) (hb : Below w.heap.size w wx) => Get_any c a l1 (h.go hb))
    obtain ⟨na, hna⟩ : ∃ na, gtI L a = na := ⟨_, rfl⟩
    rw [ga, hna] at HGA
    rw [hna] at ha
    obtain ⟨aK, aM, aL, aS, aT⟩ := na
    unfold vI at HGA
    dsimp only at HGA ha
    subst ha
    have HM := Lib.hid hm
    clear h hN hT f ga hna hm' l1 hm
    go_enter Try.func6, Try.ntmps6
    go_wp2_with (first
      | (go_at_call 7; (with_reducible refine HLV.out.mono ?_); rintro e w1 ⟨rfl, hb⟩; have HB1 := Lib.hid hb; clear hb)
      | (go_at_call 8; (with_reducible refine (HV.out _ HB1.out).mono ?_); rintro e w2 ⟨rfl, hb⟩; have HB2 := Lib.hid (HB1.out.trans (hb.mono HB1.out.size)); clear hb)
      | (go_at_call 8; (with_reducible refine (HW.out _ HB2.out).mono ?_); rintro e w3 ⟨rfl, hb⟩; have HB3 := Lib.hid (HB2.out.trans (hb.mono HB2.out.size)); clear hb)
      | (go_at_call 10; (with_reducible refine (HGA.out _ HB3.out).mono ?_); rintro e w4 ⟨rfl, hb⟩; have HB4 := Lib.hid (HB3.out.trans (hb.mono HB3.out.size)); clear hb; have ka : (w4.alloc (.cells #[.int .u8 1, .int .u16 aM, .int .u32 aL, .int .u32 aS, .string aT] 37)).cell? ⟨w4.heap.size, 0, none⟩ = some (.int .u8 1) := cell_of_row _ _ 0 _ _ _ (heap_alloc_new w4 _); have HC4 := Lib.hid (HB4.out.alloc HB4.out.size (.cells #[.int .u8 1, .int .u16 aM, .int .u32 aL, .int .u32 aS, .string aT] 37))))
    go_ret
    exact ⟨rfl, HC4.out⟩
  · have e5 : (y != 0) = true := by rw [bne, eq0, decide_eq_false hy]; rfl
    clear h hN hT f hm' l1 hy
    go_enter Try.func6, Try.ntmps6
    go_wp2_with (first
      | (go_at_call 7; (with_reducible refine HLV.out.mono ?_); rintro e w1 ⟨rfl, hb⟩; have HB1 := Lib.hid hb; clear hb)
      | (go_at_call 8; (with_reducible refine (HV.out _ HB1.out).mono ?_); rintro e w2 ⟨rfl, hb⟩; have HB2 := Lib.hid (HB1.out.trans (hb.mono HB1.out.size)); clear hb))
    go_ret
    exact ⟨rfl, HB2.out⟩
end Go.Proofs.Ytngcogjjcidccaa.Di
/- The walk of DirsRoot. -/
namespace Go.Proofs.Ytngcogjjcidccaa.Di
set_option linter.unusedVariables false
set_option linter.unusedSimpArgs false
set_option maxRecDepth 100000
open Go.ChangeShapes Go.WideShapes Go.ChangeAt Go.RowKit
open BigFrame
open Ar Rg
open Ino
open It (Itm)
open Ph (en1 en1_len spX spB)
variable {w w' wr : World} {L : List Itm}
theorem rowE {b o : Nat} {e : En} (hr : w.rangeAt b o (encEn e)) : w.cell? ⟨b, o, none⟩ = some (.string e.n) ∧ w.cell? ⟨b, o + 1, none⟩ = some (.int .u32 e.i) ∧ w.cell? ⟨b, o + 2, none⟩ = some (.int .u8 e.k) := ⟨hr 0 _ rfl, hr 1 _ rfl, hr 2 _ rfl⟩
/-- an entry's inode is there, and is not the root -/
theorem ent_gt (h : rgt L = true) (k : Ky) (j : Nat) (he : (vo (pts L)).ent k = some j) : 2 ≤ j := by
  obtain ⟨p, hp, h2, rfl, rfl⟩ := ent_of _ he
  exact (okP_2 (rgt_parts h p hp).2.1 h2).2.2
theorem ls_in (h : rgt L = true) (d : Nat) : ∀ e ∈ lsE (vo (pts L)) d (pts L), (vo (pts L)).ent ⟨2, d, e.n, 0⟩ = some e.i ∧ e.k = kind (vo (pts L)) e.i := by
  intro e he
  unfold lsE at he
  obtain ⟨p, hp, rfl⟩ := List.mem_map.1 he
  obtain ⟨hp, h1⟩ := List.mem_filter.1 hp
  unfold isE at h1
  rw [Bool.and_eq_true, decide_eq_true_iff, decide_eq_true_iff] at h1
  obtain ⟨h1, h2⟩ := h1
  have h3 := ent_is hp h1
  cases h4 : (vo (pts L)).ent p.k with
  | none => rw [h4] at h3; cases h3
  | some j =>
    have hC : p.k.C = 0 := by
      rcases (okK_iff.1 (rgt_parts h p hp).2.2).2 with h5 | h5 | h5
      · have := h5.1; omega
      · exact h5.2.2
      · have := h5.1; omega
    have hk : p.k = ⟨2, d, p.k.N, 0⟩ := by
      rw [← h1, ← h2, ← hC]
    unfold enOf
    dsimp only
    rw [← hk, h4]
    exact ⟨rfl, rfl⟩
theorem ls_ok (h : rgt L = true) (i : Nat) : ∀ e ∈ lsL L i, e.i < 4294967296 ∧ gtE L e.i = 0 ∧ (gtI L e.i).K = e.k ∧ 2 ≤ e.i ∧ ((vo (pts L)).ino e.i).isSome = true := by
  intro e he
  unfold lsL at he
  split at he
  · obtain ⟨h1, h2⟩ := ls_in h i e he
    have h3 := ent_ino h _ _ h1
    have g := gt_of h h3
    exact ⟨ent_lt _ _ h1, g.1, by rw [g.2, h2], ent_gt h _ _ h1, h3⟩
  · cases he
theorem lsL_len {n : Nat} (hn : n = L.length) (hm : n ≤ 1048576) (i : Nat) : (lsL L i).length ≤ 1048576 := by
  unfold lsL
  split
  · unfold lsE
    rw [List.length_map]
    refine Nat.le_trans (List.length_filter_le _ _) ?_
    rw [pts_length]
    omega
  · exact Nat.zero_le _
theorem gtE_no (h : rgt L = true) {j : Nat} (hj : (vo (pts L)).ino j = none) : gtE L j = 5 := by
  unfold gtE
  rw [h, if_pos rfl, hj]
  rfl
set_option maxHeartbeats 4000000 in
theorem dirsRoot_walk {A : Option Addr} {n : Nat} (c i : Nat) (hi : i < 4294967296) (h : ItA w A n L) :
    Calls Try.prog 5 #[.slice A n c, .int .u32 (i : Int)] w fun e w' => e = .returned (.bool true) ∧ Below w.heap.size w w' := by
  have HLV := Lib.hid (lives_any w)
  cases hr : rgt L
  · have HW := Lib.hid (fun (wx : World) (hb : Below w.heap.size w wx) => show Calls Try.prog 8 #[.slice A n c, .slice none 0 0, .bool false] wx (fun e w' => e = .returned (.tuple #[.int .u32 ((0 : Nat) : Int), .int .i64 9]) ∧ Below wx.heap.size wx w') by
      have := Walk_any c false (h.go hb) (nm_nil wx)
      unfold wlk at this
      rw [hr, if_neg (by decide)] at this
      exact this)
    have HC := Lib.hid (fun (wx : World) (hb : Below w.heap.size w wx) => show Calls Try.prog 11 #[.slice A n c] wx (fun e w' => e = .returned (.int .i64 9) ∧ Below wx.heap.size wx w') by
      have := Check_any c (h.go hb)
      unfold ckE at this
      rw [hr, if_neg (by decide)] at this
      exact this)
    clear h hr
    go_enter Try.func5, Try.ntmps5
    go_wp2_with (first
      | (go_at_call 7; (with_reducible refine HLV.out.mono ?_); rintro e w1 ⟨rfl, hb⟩; have HB1 := Lib.hid hb; clear hb)
      | (go_at_call 8; (with_reducible refine (HW.out _ HB1.out).mono ?_); rintro e w2 ⟨rfl, hb⟩; have HB2 := Lib.hid (HB1.out.trans (hb.mono HB1.out.size)); clear hb)
      | (go_at_call 11; (with_reducible refine (HC.out _ HB2.out).mono ?_); rintro e w3 ⟨rfl, hb⟩; have HB3 := Lib.hid (HB2.out.trans (hb.mono HB2.out.size)); clear hb))
    go_ret
    exact ⟨rfl, HB3.out⟩
  · have HW := Lib.hid (fun (wx : World) (hb : Below w.heap.size w wx) => show Calls Try.prog 8 #[.slice A n c, .slice none 0 0, .bool false] wx (fun e w' => e = .returned (.tuple #[.int .u32 ((1 : Nat) : Int), .int .i64 0]) ∧ Below wx.heap.size wx w') by
      have := Walk_any c false (h.go hb) (nm_nil wx)
      unfold wlk at this
      rw [hr, if_pos rfl, wkL_nil] at this
      exact this)
    have HX := Lib.hid (fun (wx : World) (hb : Below w.heap.size w wx) => show Calls Try.prog 12 #[.slice A n c] wx (fun e w' => ∃ j : Nat, e = .returned (.tuple #[.int .u32 (j : Int), .int .i64 0]) ∧ Nx (vo (pts L)) j ∧ Below wx.heap.size wx w') by
      have := Next_any c (h.go hb)
      unfold ckE at this
      rw [hr] at this
      simp only [if_true] at this
      exact this)
    have HG := Lib.hid (fun (wx : World) (hb : Below w.heap.size w wx) (i : Nat) (hi : i < 4294967296) => Get_any c i hi (h.go hb))
    have HLS := Lib.hid (fun (wx : World) (hb : Below w.heap.size w wx) => List_any c i hi (h.go hb))
    have HF := Lib.hid (ls_ok hr i)
    have HNO := Lib.hid (fun (j : Nat) => @gtE_no L hr j)
    have HX0 := Lib.hid (show lsX L i = if gtE L i ≠ 0 then gtE L i else if (gtI L i).K ≠ 1 then 12 else 0 from rfl)
    have HGE := Lib.hid (show gtE L i = 0 ∨ gtE L i = 5 by unfold gtE; rw [hr, if_pos rfl]; split; exact .inl rfl; exact .inr rfl)
    have HR := Lib.hid hr
    have hDl := lsL_len h.1 h.2.1 i
    have HI := Lib.hid hi
    generalize lsL L i = D at *
    generalize lsX L i = X at *
    clear h hr hi
    go_enter Try.func5, Try.ntmps5
    go_wp2_with (first
      | (go_at_call 7; (with_reducible refine HLV.out.mono ?_); rintro e w1 ⟨rfl, hb⟩; have HB1 := Lib.hid hb; clear hb)
      | (go_at_call 8; (with_reducible refine (HW.out _ HB1.out).mono ?_); rintro e w2 ⟨rfl, hb⟩; have HB2 := Lib.hid (HB1.out.trans (hb.mono HB1.out.size)); clear hb)
      | (go_at_call 12; (with_reducible refine (HX.out _ HB2.out).mono ?_); rintro e w3 ⟨j, rfl, hj, hb⟩; have HB3 := Lib.hid (HB2.out.trans (hb.mono HB2.out.size)); clear hb)
      | (have GJ := HG.out _ HB3.out j hj.2.1
         rw [HNO.out j hj.2.2.1] at GJ
         obtain ⟨nj, hnj⟩ : ∃ nj, gtI L j = nj := ⟨_, rfl⟩
         rw [hnj] at GJ
         obtain ⟨jK, jM, jL, jS, jT⟩ := nj
         unfold vI at GJ
         dsimp only at GJ
         have HGJ := Lib.hid GJ
         have HJ := Lib.hid hj
         clear GJ hnj hj
         (go_at_call 10; (with_reducible refine HGJ.out.mono ?_); rintro e w4 ⟨rfl, hb⟩; have HB4 := Lib.hid (HB3.out.trans (hb.mono HB3.out.size)); clear hb; have HC4 := Lib.hid (HB4.out.alloc HB4.out.size (.cells #[.int .u8 jK, .int .u16 jM, .int .u32 jL, .int .u32 jS, .string jT] 37))))
      | (go_at_call 9; (with_reducible refine (HLS.out _ HC4.out).mono ?_); rintro e w5 ⟨v, rfl, hm⟩; have HB5 := Lib.hid (HC4.out.trans (hm.2.mono HC4.out.size)); obtain ⟨A5, c5, rfl, hc5, hc6, hL5⟩ := hm.ls encEn_len; have HL5 := Lib.hid hL5; have HCM := Lib.hid (And.intro hc5 hc6); clear hm hL5 hc5 hc6))
    go_loopw [54] (fun v wr => ∃ k : Nat, k ≤ D.length ∧ v = .int .i64 k ∧ Hid (Below w5.heap.size w5 wr)) (fun v _ => D.length - (intOf v).toNat)
    case atStart => exact ⟨0, Nat.zero_le _, by go_num, Below.refl _ _⟩
    case round =>
      obtain ⟨k, hk, rfl, hb⟩ := hrel
      have HB := Lib.hid (Hid.out hb)
      have HBw := Lib.hid (HB5.out.trans (HB.out.mono HB5.out.size))
      clear hb
      by_cases hlt : k < D.length
      · obtain ⟨en, hen⟩ : ∃ en, D[k]? = some en := ⟨_, List.getElem?_eq_getElem hlt⟩
        obtain ⟨b, o, hAe, hbs, hrr⟩ := (HL5.out.below HB.out) k en hen
        obtain ⟨r0, r1, r2⟩ := rowE hrr
        obtain ⟨f1, f2, f3, f4, f5⟩ := HF.out en (List.mem_of_getElem? hen)
        clear hrr hen hbs
        subst hAe
        obtain ⟨Nm, ei, ek⟩ := en
        dsimp only at r0 r1 r2 f1 f2 f3 f4 f5
        have e1 : ((ei : Int) == 1) = false := eqz1 (decide_eq_false (by omega))
        have e2 : ((ei : Int) == (j : Int)) = false := eqz (decide_eq_false (fun e => by rw [e, HJ.out.2.2.1] at f5; cases f5))
        obtain ⟨nx, hnx⟩ : ∃ nx, gtI L ei = nx := ⟨_, rfl⟩
        rw [hnx] at f3
        obtain ⟨xK, xM, xL, xS, xT⟩ := nx
        dsimp only at f3
        subst f3
        have hal : Below w.heap.size w (wr.alloc (.cells #[.string Nm, .int .u32 (ei : Int), .int .u8 (xK : Int)] 34)) := HBw.out.alloc HBw.out.size _
        have GJ := HG.out _ hal ei f1
        rw [f2, hnx] at GJ
        unfold vI at GJ
        dsimp only at GJ
        have HGX := Lib.hid GJ
        have HAL := Lib.hid hal
        have HQ := Lib.hid (heap_alloc_new wr (.cells #[.string Nm, .int .u32 (ei : Int), .int .u8 (xK : Int)] 34))
        have HZ := Lib.hid (show wr.heap.size < (wr.alloc (.cells #[.string Nm, .int .u32 (ei : Int), .int .u8 (xK : Int)] 34)).heap.size by simp)
        have HAS := Lib.hid (HB.out.alloc HB.out.size (.cells #[.string Nm, .int .u32 (ei : Int), .int .u8 (xK : Int)] 34))
        have hp1 : (wr.alloc (.cells #[.string Nm, .int .u32 (ei : Int), .int .u8 (xK : Int)] 34)).cell? ⟨wr.heap.size, 1, none⟩ = some (.int .u32 (ei : Int)) := cell_of_row _ _ 1 _ _ _ (heap_alloc_new wr (.cells #[.string Nm, .int .u32 (ei : Int), .int .u8 (xK : Int)] 34))
        clear GJ hnx f1 f2 f4 f5 hal
        go_wp2_with (go_at_call 10; (with_reducible refine HGX.out.mono ?_); rintro e w6 ⟨rfl, hb⟩; have HB6 := Lib.hid (HAL.out.trans (hb.mono HAL.out.size)); have hx := (hb.alloc hb.size (.cells #[.int .u8 (xK : Int), .int .u16 xM, .int .u32 xL, .int .u32 xS, .string xT] 37)); have HS6 := Lib.hid (HAS.out.trans (hx.mono HAS.out.size)); have x0 : (w6.alloc (.cells #[.int .u8 (xK : Int), .int .u16 xM, .int .u32 xL, .int .u32 xS, .string xT] 37)).cell? ⟨w6.heap.size, 0, none⟩ = some (.int .u8 (xK : Int)) := cell_of_row _ _ 0 _ _ _ (heap_alloc_new w6 _); have q0 := (hx.block wr.heap.size HZ.out).trans HQ.out; have q1 : (w6.alloc (.cells #[.int .u8 (xK : Int), .int .u16 xM, .int .u32 xL, .int .u32 xS, .string xT] 37)).cell? ⟨wr.heap.size, 1, none⟩ = some (.int .u32 (ei : Int)) := cell_of_row _ _ 1 _ _ _ q0; have q2 : (w6.alloc (.cells #[.int .u8 (xK : Int), .int .u16 xM, .int .u32 xL, .int .u32 xS, .string xT] 37)).cell? ⟨wr.heap.size, 2, none⟩ = some (.int .u8 (xK : Int)) := cell_of_row _ _ 2 _ _ _ q0; clear hb hx q0)
        exact ⟨⟨k + 1, by omega, by go_num, HS6.out⟩, by simp [intOf] <;> omega⟩
      · have GJ := HG.out _ HBw.out i HI.out
        have hX := HX0.out
        have h2 := HJ.out.1
        have e3 : decide ((1 : Int) < (j : Int)) = true := decide_eq_true (by omega)
        obtain ⟨nx, hnx⟩ : ∃ nx, gtI L i = nx := ⟨_, rfl⟩
        rw [hnx] at GJ hX
        obtain ⟨xK, xM, xL, xS, xT⟩ := nx
        unfold vI at GJ
        dsimp only at GJ hX
        rcases HGE.out with h5 | h5
        · rw [h5] at GJ hX
          rw [if_neg (by decide)] at hX
          have HGX := Lib.hid GJ
          by_cases hK : xK = 1
          · rw [if_neg (fun h => h hK)] at hX
            subst hX hK
            clear GJ hnx h5 h2
            go_wp2_with (go_at_call 10; (with_reducible refine HGX.out.mono ?_); rintro e w6 ⟨rfl, hb⟩; have HB6 := Lib.hid (HBw.out.trans (hb.mono HBw.out.size)); have hx := Lib.hid (HB6.out.alloc HB6.out.size (.cells #[.int .u8 1, .int .u16 xM, .int .u32 xL, .int .u32 xS, .string xT] 37)); have x0 : (w6.alloc (.cells #[.int .u8 1, .int .u16 xM, .int .u32 xL, .int .u32 xS, .string xT] 37)).cell? ⟨w6.heap.size, 0, none⟩ = some (.int .u8 1) := cell_of_row _ _ 0 _ _ _ (heap_alloc_new w6 _); clear hb)
            go_ret
            exact ⟨rfl, hx.out⟩
          · rw [if_pos hK] at hX
            subst hX
            have e4 : ((xK : Int) == 1) = false := eqz1 (decide_eq_false hK)
            clear GJ hnx h5 h2 hK
            go_wp2_with (go_at_call 10; (with_reducible refine HGX.out.mono ?_); rintro e w6 ⟨rfl, hb⟩; have HB6 := Lib.hid (HBw.out.trans (hb.mono HBw.out.size)); have hx := Lib.hid (HB6.out.alloc HB6.out.size (.cells #[.int .u8 (xK : Int), .int .u16 xM, .int .u32 xL, .int .u32 xS, .string xT] 37)); have x0 : (w6.alloc (.cells #[.int .u8 (xK : Int), .int .u16 xM, .int .u32 xL, .int .u32 xS, .string xT] 37)).cell? ⟨w6.heap.size, 0, none⟩ = some (.int .u8 (xK : Int)) := cell_of_row _ _ 0 _ _ _ (heap_alloc_new w6 _); clear hb)
            go_ret
            exact ⟨rfl, hx.out⟩
        · rw [h5] at GJ hX
          rw [if_pos (by decide)] at hX
          subst hX
          have HGX := Lib.hid GJ
          clear GJ hnx h5 h2
          go_wp2_with (go_at_call 10; (with_reducible refine HGX.out.mono ?_); rintro e w6 ⟨rfl, hb⟩; have HB6 := Lib.hid (HBw.out.trans (hb.mono HBw.out.size)); have hx := Lib.hid (HB6.out.alloc HB6.out.size (.cells #[.int .u8 (xK : Int), .int .u16 xM, .int .u32 xL, .int .u32 xS, .string xT] 37)); have x0 : (w6.alloc (.cells #[.int .u8 (xK : Int), .int .u16 xM, .int .u32 xL, .int .u32 xS, .string xT] 37)).cell? ⟨w6.heap.size, 0, none⟩ = some (.int .u8 (xK : Int)) := cell_of_row _ _ 0 _ _ _ (heap_alloc_new w6 _); clear hb)
          go_ret
          exact ⟨rfl, hx.out⟩
end Go.Proofs.Ytngcogjjcidccaa.Di
/- What DirsFound leans on: the entries rise, and each is found; rows of strings that are made in drawn orders. -/
namespace Go.Proofs.Ytngcogjjcidccaa.Di
set_option linter.unusedVariables false
set_option linter.unusedSimpArgs false
set_option maxRecDepth 100000
open Go.ChangeShapes Go.WideShapes Go.ChangeAt Go.RowKit
open BigFrame
open Ar Rg
open Ino
open It (Itm)
open Ph (en1 en1_len en1_one MkS infoS spX spB)
variable {w w' wr : World} {L : List Itm}
theorem bl_app (p x y : List UInt8) : By.bl (p ++ x) (p ++ y) = By.bl x y := by
  induction p with
  | nil => rfl
  | cons a p ih =>
    show (decide (a < a) || (a == a && By.bl (p ++ x) (p ++ y))) = _
    rw [ih, beq_self_eq_true]
    simp [UInt8.lt_irrefl]
theorem key_2 {x : Itm} {d : Nat} (hx : okX x = true) (h : isE d (ptOf x) = true) : It.key x = (pfx 2 d).data.toList ++ (ptOf x).k.N.data.toList := by
  unfold isE at h
  rw [Bool.and_eq_true, decide_eq_true_iff, decide_eq_true_iff] at h
  obtain ⟨h1, h2⟩ := h
  have h3 := (deK_ok (okX_1 hx).1).2.1
  unfold It.key
  have h1' : (deK x.k).K = 2 := h1
  have h2' : (deK x.k).I = d := h2
  rw [← h3]
  unfold wrK
  rw [if_neg (by rw [h1']; decide), h1', h2', ByteArray.data_append, Array.toList_append]
  rfl
/-- the entries stand rising by name -/
theorem lsE_rise (h : rgt L = true) (d : Nat) : (lsE (vo (pts L)) d (pts L)).Pairwise (fun a b => By.bl a.n.data.toList b.n.data.toList = true) := by
  have hr := rgt_iff.1 h
  unfold lsE
  rw [List.pairwise_map, List.pairwise_filter]
  unfold pts
  rw [List.pairwise_map]
  refine List.Pairwise.imp_of_mem (fun {a b} ha hb hab h1 h2 => ?_) (rt_all hr.rt).2
  rw [key_2 (hr.ok a ha) h1, key_2 (hr.ok b hb) h2, bl_app] at hab
  exact hab
theorem lsE_at (h : rgt L = true) (d : Nat) (y : ByteArray) (j : Nat) (he : (vo (pts L)).ent ⟨2, d, y, 0⟩ = some j) : ∃ e ∈ lsE (vo (pts L)) d (pts L), e.n = y := by
  obtain ⟨p, hp, h2, hk, _⟩ := ent_of _ he
  refine ⟨enOf (vo (pts L)) p, ?_, by unfold enOf; dsimp only; rw [hk]⟩
  unfold lsE
  refine List.mem_map.2 ⟨p, List.mem_filter.2 ⟨hp, ?_⟩, rfl⟩
  unfold isE
  rw [h2, hk]
  simp
def sameN (y : ByteArray) (e : En) : Bool := e.n.toList == y.toList
theorem sameN_iff {y : ByteArray} {e : En} : sameN y e = true ↔ e.n = y := by
  unfold sameN
  rw [beq_iff_eq, ByteArray.toList_eq, ByteArray.toList_eq]
  constructor
  · intro h
    have h1 : e.n.data = y.data := Array.toList_inj.1 h
    calc e.n = ⟨e.n.data⟩ := rfl
      _ = ⟨y.data⟩ := by rw [h1]
      _ = y := rfl
  · rintro rfl; rfl
structure Found (L : List Itm) (names : List ByteArray) (other : ByteArray) (a : Nat) : Prop where
  each : ∀ e ∈ lsL L a, wlk L false (names ++ [e.n]) = (e.i, 0) ∧ e.i < 4294967296 ∧ gtE L e.i = 0 ∧ (gtI L e.i).K = e.k ∧ e.n.size ≤ maxLen
  rise : (lsL L a).Pairwise (fun a b => By.bl a.n.data.toList b.n.data.toList = true)
  all : ((wlk L false (names ++ [other])).2 == 0) = (lsL L a).any (sameN other)
theorem found {names : List ByteArray} {other : ByteArray} {a : Nat} (h : wlk L true names = (a, 0)) (hx : lsX L a = 0) : Found L names other a := by
  have hr : rgt L = true := by
    cases e : rgt L
    · unfold wlk at h; rw [e] at h; cases h
    · rfl
  have hE : lsL L a = lsE (vo (pts L)) a (pts L) := by unfold lsL; rw [if_pos hx]
  have hk : kind (vo (pts L)) a = 1 := by
    unfold lsX at hx
    by_cases hg : gtE L a = 0
    · rw [if_neg (fun h => h hg)] at hx
      have hK : (gtI L a).K = 1 := by
        by_cases e : (gtI L a).K = 1
        · exact e
        · rw [if_pos e] at hx; cases hx
      have hi : ((vo (pts L)).ino a).isSome = true := by
        unfold gtE at hg
        rw [hr, if_pos rfl] at hg
        cases e : ((vo (pts L)).ino a).isSome
        · rw [e] at hg; cases hg
        · rfl
      rw [← (gt_of hr hi).2]; exact hK
    · rw [if_pos hg] at hx; exact absurd hx hg
  have hw : ∀ y, wlk L false (names ++ [y]) = (match (vo (pts L)).ent ⟨2, a, y, 0⟩ with | none => (0, 5) | some j => (j, 0) : Nat × Int) := by
    intro y
    unfold wlk at h ⊢
    rw [hr, if_pos rfl] at h
    rw [hr, if_pos rfl, wkL_snoc, h, one_ok, if_neg (by rw [hk]; decide)]
    rfl
  have hin := ls_in hr a
  have hok := ls_ok hr a
  refine ⟨fun e he => ?_, by rw [hE]; exact lsE_rise hr a, ?_⟩
  · have h1 := hok e he
    rw [hE] at he
    refine ⟨by rw [hw, (hin e he).1], h1.1, h1.2.1, h1.2.2.1, ?_⟩
    unfold lsE at he
    obtain ⟨p, hp, rfl⟩ := List.mem_map.1 he
    have := okK_size (rgt_parts hr p (List.mem_filter.1 hp).1).2.2
    unfold enOf maxLen
    dsimp only
    omega
  · rw [hw, hE, Bool.eq_iff_iff, List.any_eq_true]
    constructor
    · intro h1
      cases e : (vo (pts L)).ent ⟨2, a, other, 0⟩ with
      | none => rw [e] at h1; cases h1
      | some j =>
        obtain ⟨x, hx1, hx2⟩ := lsE_at hr a other j e
        exact ⟨x, hx1, sameN_iff.2 hx2⟩
    · rintro ⟨x, hx1, hx2⟩
      rw [← sameN_iff.1 hx2, (hin x hx1).1]
      rfl
theorem any_snoc {α : Type} {D : List α} {f : α → Bool} {k : Nat} {e : α} (h : D[k]? = some e) : (D.take (k + 1)).any f = ((D.take k).any f || f e) := by
  rw [List.take_add_one, h, List.any_append]
  simp
theorem rise_at {D : List En} (h : D.Pairwise (fun a b => By.bl a.n.data.toList b.n.data.toList = true)) {k : Nat} {x y : En} (hx : D[k]? = some x) (hy : D[k + 1]? = some y) : By.bl x.n.data.toList y.n.data.toList = true := by
  obtain ⟨h1, e1⟩ := List.getElem?_eq_some_iff.1 hx
  obtain ⟨h2, e2⟩ := List.getElem?_eq_some_iff.1 hy
  have := List.pairwise_iff_getElem.1 h k (k + 1) h1 h2 (Nat.lt_succ_self k)
  rw [e1, e2] at this
  exact this
section
variable {P : Program}
/-- a new row of nothing -/
theorem run_slice0 (w : World) (S e : TypeId) (i : TypeInfo) (hS : P.underlying S = some (.slice e)) (hi : P.info? e = some i) :
    (Instr.buildSlice S 0 #[]).run P w = .ok (.slice (some ⟨w.heap.size, 0, none⟩) 0 0) (w.alloc (.cells #[] e)) := by
  have hu := run_underlying (P := P) hS w
  have hso := run_sizeOf (P := P) w hi
  unfold Instr.buildSlice
  rw [Sem.run_bind, hu, Result.andThen_ok]
  simp only []
  rw [Sem.run_bind, hso, Result.andThen_ok]
  simp only [Nat.zero_mul]
  rw [if_neg (by omega), if_pos trivial]
  simp only [pure_bind]
  rw [Instr.fill.eq_1]
  have hr0 : Array.range 0 = #[] := by simp
  simp [newRow, newObj, hr0]
  rfl
variable {o : Oper} {a : Act} {K : Act → World → Prop} {Q : Exit → Act → World → Prop} {ops : Array Oper} {rest : List Oper}
theorem op_slice0 {w : World} (S e : TypeId) (i : TypeInfo) (ho : o.op = .buildSlice S 0 #[]) (hS : P.underlying S = some (.slice e)) (hi : P.info? e = some i)
    (h : K (a.put o.dst (.slice (some ⟨w.heap.size, 0, none⟩) 0 0)) (w.alloc (.cells #[] e))) : Oper.wp P o a w K Q := by
  unfold Oper.wp execOp
  simp only [ho, List.map_toArray, List.map_nil, Sem.run_bind, Sem.run_pure, Result.andThen_ok, run_slice0 w S e i hS hi]
  exact h
end
/-- a row of no strings -/
theorem op_noS {o : Oper} {a : Act} {K : Act → World → Prop} {Q : Exit → Act → World → Prop} {wb : World} (hb : Below wb.heap.size wb wr) (ho : o.op = .buildSlice 23 0 #[])
    (h : MkS wb (wr.alloc (.cells #[] 9)) (.slice (some ⟨wr.heap.size, 0, none⟩) 0 0) [] → K (a.put o.dst (.slice (some ⟨wr.heap.size, 0, none⟩) 0 0)) (wr.alloc (.cells #[] 9))) : Oper.wp Try.prog o a wr K Q := by
  obtain ⟨i0, hi, _⟩ := info_parts infoS
  exact op_slice0 23 9 i0 ho Try.underlying23 hi (h ⟨World.ownsRow_made wr #[] 0 hb.size (Nat.zero_le _) (by simp), hb.alloc hb.size _⟩)
theorem op_catS {o : Oper} {a : Act} {K : Act → World → Prop} {Q : Exit → Act → World → Prop} {v : Value} {D : List ByteArray} (hM : MkS w wr v D) (E : List ByteArray) (A : Option Addr) (m c : Nat) {B : Nat} (hm : m = E.length) (hL : Ls en1 1 wr B A E) (hlen : D.length + m ≤ 8796093022208)
    (s x : Operand) (ho : o.op = .call { callee := .builtin .append, args := #[s, x], argTypes := #[23, 23] }) (hs : a.eval s = v) (hx : a.eval x = .slice A m c)
    (h : ∀ v' w', MkS w w' v' (D ++ E) → wr.grownBy w' v.ownBlock → K (a.put o.dst v') w') : Oper.wp Try.prog o a wr K Q := by
  obtain ⟨i0, hi, hz0, hz1, hz2⟩ := info_parts infoS
  obtain ⟨v', w', hr, h2, h3⟩ := run_cat (P := Try.prog) 23 o.type i0 _ 16 Try.underlying23 hi hz0 hz1 hz2 rfl (by decide) en1_len en1_one hM m c hm hL (by unfold maxLen; omega) (by omega)
  unfold Oper.wp execOp
  simp only [ho, resolve, invoke, builtin, Sem.run_bind, Sem.run_pure, Result.andThen_ok, List.map_toArray, List.map_cons, List.map_nil, hs, hx, hr]
  exact h v' w' h2 h3
theorem wpList_noS {ops : Array Oper} {rest : List Oper} {o : Oper} {a : Act} {Q : Exit → Act → World → Prop} {wb : World} (hb : Below wb.heap.size wb wr) (hgd : o.guard = none) (ho : o.op = .buildSlice 23 0 #[])
    (h : MkS wb (wr.alloc (.cells #[] 9)) (.slice (some ⟨wr.heap.size, 0, none⟩) 0 0) [] → wpList Try.prog ops Q rest (a.put o.dst (.slice (some ⟨wr.heap.size, 0, none⟩) 0 0)) (wr.alloc (.cells #[] 9))) : wpList Try.prog ops Q (o :: rest) a wr :=
  wpList_plain hgd fun K hK => op_noS hb ho (fun h' => hK _ _ (h h'))
section
variable {P : Program} {ops : Array Oper} {Q : Exit → Act → World → Prop} {md : Region.Mode} {S : World → Prop} {n : Nat} {L : Array Bool → Act → World → Prop}
/-- two operations that may come up, each the next one -/
theorem two_T {f : Nat} {listed : Array Bool} {tmps : Array Value} {w : World} (i j : Nat) {oi oj : Oper} (hi : ops[i]? = some oi) (hj : ops[j]? = some oj) (hr : Region.ready md ops listed = [i, j]) (hin : i < n) (hjn : j < n)
    (hwi : Region.wanted oi (yielded ops tmps) = true) (hwj : Region.wanted oj (yielded ops tmps) = true)
    (h1 : ∀ K : Act → World → Prop, Shut (∀ a' w', S w' → wpAnyT P md ops Q S n L f (listed.setIfInBounds i true) a' w' → K a' w') → Oper.wp P oi { tmps := tmps, defers := [] } w K Q)
    (h2 : ∀ K : Act → World → Prop, Shut (∀ a' w', S w' → wpAnyT P md ops Q S n L f (listed.setIfInBounds j true) a' w' → K a' w') → Oper.wp P oj { tmps := tmps, defers := [] } w K Q) :
    wpAnyT P md ops Q S n L (f + 1) listed { tmps := tmps, defers := [] } w := by
  refine ⟨fun h0 => (by rw [hr] at h0; cases h0), fun k hk => ?_⟩
  rw [hr] at hk
  rcases List.mem_cons.1 hk with rfl | hk
  · refine ⟨hin, wpOp_step hi fun K' hK => ?_⟩
    rw [if_pos hwi]
    exact h1 K' (fun a w hS hW => hK a w ⟨hS, hW⟩)
  · have hkj : k = j := by simpa using hk
    subst hkj
    refine ⟨hjn, wpOp_step hj fun K' hK => ?_⟩
    rw [if_pos hwj]
    exact h2 K' (fun a w hS hW => hK a w ⟨hS, hW⟩)
end
end Go.Proofs.Ytngcogjjcidccaa.Di
/- The walk of DirsFound. -/
namespace Go.Proofs.Ytngcogjjcidccaa.Di
set_option linter.unusedVariables false
set_option linter.unusedSimpArgs false
set_option maxRecDepth 100000
open Go.ChangeShapes Go.WideShapes Go.ChangeAt Go.RowKit
open BigFrame
open Ar Rg
open Ino
open It (Itm)
open Ph (en1 en1_len en1_one MkS catS spX spB)
variable {w w' wr : World} {L : List Itm}
theorem row_lt {b : Nat} {o : Obj} (h : w.heap[b]? = some o) : b < w.heap.size := (Array.getElem?_eq_some_iff.1 h).1
theorem ls_row {q : Nat} {x : ByteArray} {t : TypeId} {f : Nat × Nat} (h : w.heap[q]? = some (.cells #[.string x] t f)) : Ls en1 1 w (q + 1) (some ⟨q, 0, none⟩) [x] := fun i y hy => by
  cases i with
  | zero =>
    obtain rfl : x = y := by simpa using hy
    refine ⟨q, 0, rfl, Nat.lt_succ_self _, fun j u hu => ?_⟩
    cases j with
    | zero =>
      obtain rfl : Value.string x = u := by simpa [en1] using hu
      exact cell_of_row _ _ 0 _ _ _ h
    | succ j => simp [en1] at hu
  | succ i => simp at hy
set_option maxHeartbeats 8000000 in
theorem dirsFound_walk {A A' : Option Addr} {n n' c' : Nat} (c : Nat) {names : List ByteArray} {other : ByteArray} (ho : other.size ≤ maxLen) (h : ItA w A n L) (hN : NmA w A' n' c' names) (hn6 : n' ≤ 1048576) :
    Calls Try.prog 3 #[.slice A n c, .slice A' n' c', .string other] w fun e w' => e = .returned (.bool true) ∧ Below w.heap.size w w' := by
  have HLV := Lib.hid (lives_any w)
  have HW := Lib.hid (fun (wx : World) (hb : Below w.heap.size w wx) => Walk_any c true (h.go hb) (hN.go hb))
  have HV := Lib.hid (fun (wx : World) (hb : Below w.heap.size w wx) (A2 : Option Addr) (n2 c2 : Nat) (nm : ByteArray) (h2 : NmA wx A2 n2 c2 (names ++ [nm])) => Walk_any c false (h.go hb) h2)
  have HG := Lib.hid (fun (wx : World) (hb : Below w.heap.size w wx) (i : Nat) (hi : i < 4294967296) => Get_any c i hi (h.go hb))
  have l1 := wlk_lt L true names
  obtain ⟨q, hq⟩ : ∃ q, wlk L true names = q := ⟨_, rfl⟩
  rw [hq] at HW l1
  obtain ⟨a, x⟩ := q
  dsimp only at HW l1
  have HLS := Lib.hid (fun (wx : World) (hb : Below w.heap.size w wx) => List_any c a l1 (h.go hb))
  have hDl := lsL_len h.1 h.2.1 a
  have HF := Lib.hid (fun (h1 : x = 0) (h2 : lsX L a = 0) => found (other := other) (by rw [hq, h1]) h2)
  have HN6 := Lib.hid hn6
  have HNM := Lib.hid hN
  have HSO := Lib.hid ho
  obtain ⟨X, hX⟩ : ∃ X, lsX L a = X := ⟨_, rfl⟩
  rw [hX] at HF HLS
  clear h hN hq l1 hn6 ho hX
  by_cases hx : x ≠ 0
  · have e1 : (x != 0) = true := by rw [bne, eq0, decide_eq_false hx]; rfl
    clear hx HF
    go_enter Try.func3, Try.ntmps3
    go_wp2_with (first
      | (go_at_call 7; (with_reducible refine HLV.out.mono ?_); rintro e w1 ⟨rfl, hb⟩; have HB1 := Lib.hid hb; clear hb)
      | (go_at_call 8; (with_reducible refine (HW.out _ HB1.out).mono ?_); rintro e w2 ⟨rfl, hb⟩; have HB2 := Lib.hid (HB1.out.trans (hb.mono HB1.out.size)); clear hb)
      | (go_at_call 9; (with_reducible refine (HLS.out _ HB2.out).mono ?_); rintro e w3 ⟨v, rfl, hm⟩; have HB3 := Lib.hid (HB2.out.trans (hm.2.mono HB2.out.size)); obtain ⟨A5, c5, rfl, hc5, hc6, hL5⟩ := hm.ls encEn_len; have HL5 := Lib.hid hL5; clear hm hL5 hc5 hc6))
    go_ret
    exact ⟨rfl, HB3.out⟩
  replace hx := Decidable.not_not.1 hx
  subst hx
  by_cases hX : X ≠ 0
  · have e1 : (X != 0) = true := by rw [bne, eq0, decide_eq_false hX]; rfl
    clear hX HF
    go_enter Try.func3, Try.ntmps3
    go_wp2_with (first
      | (go_at_call 7; (with_reducible refine HLV.out.mono ?_); rintro e w1 ⟨rfl, hb⟩; have HB1 := Lib.hid hb; clear hb)
      | (go_at_call 8; (with_reducible refine (HW.out _ HB1.out).mono ?_); rintro e w2 ⟨rfl, hb⟩; have HB2 := Lib.hid (HB1.out.trans (hb.mono HB1.out.size)); clear hb)
      | (go_at_call 9; (with_reducible refine (HLS.out _ HB2.out).mono ?_); rintro e w3 ⟨v, rfl, hm⟩; have HB3 := Lib.hid (HB2.out.trans (hm.2.mono HB2.out.size)); obtain ⟨A5, c5, rfl, hc5, hc6, hL5⟩ := hm.ls encEn_len; have HL5 := Lib.hid hL5; clear hm hL5 hc5 hc6))
    go_ret
    exact ⟨rfl, HB3.out⟩
  replace hX := Decidable.not_not.1 hX
  subst hX
  obtain ⟨f1, f2, f3⟩ := HF.out rfl rfl
  have FE := Lib.hid f1
  have FR := Lib.hid f2
  have FA := Lib.hid f3
  generalize lsL L a = D at *
  clear f1 f2 f3 HF
  go_enter Try.func3, Try.ntmps3
  go_wp2_with (first
    | (go_at_call 7; (with_reducible refine HLV.out.mono ?_); rintro e w1 ⟨rfl, hb⟩; have HB1 := Lib.hid hb; clear hb)
    | (go_at_call 8; (with_reducible refine (HW.out _ HB1.out).mono ?_); rintro e w2 ⟨rfl, hb⟩; have HB2 := Lib.hid (HB1.out.trans (hb.mono HB1.out.size)); clear hb)
    | (go_at_call 9; (with_reducible refine (HLS.out _ HB2.out).mono ?_); rintro e w3 ⟨v, rfl, hm⟩; have HB3 := Lib.hid (HB2.out.trans (hm.2.mono HB2.out.size)); obtain ⟨A5, c5, rfl, hc5, hc6, hL5⟩ := hm.ls encEn_len; have HL5 := Lib.hid hL5; clear hm hL5 hc5 hc6))
  go_loopw [11, 42] (fun v11 v wr => ∃ k : Nat, k ≤ D.length ∧ v11 = .bool ((D.take k).any (sameN other)) ∧ v = .int .i64 k ∧ Hid (Below w3.heap.size w3 wr)) (fun _ v _ => D.length - (intOf v).toNat)
  case atStart => exact ⟨0, Nat.zero_le _, rfl, by go_num, Below.refl _ _⟩
  case round =>
    obtain ⟨k, hk, rfl, rfl, hb⟩ := hrel
    have HB := Lib.hid (Hid.out hb)
    clear hb
    by_cases hlt : k < D.length
    · obtain ⟨en, hen⟩ : ∃ en, D[k]? = some en := ⟨_, List.getElem?_eq_getElem hlt⟩
      obtain ⟨b, o, hAe, hbs, hrr⟩ := (HL5.out.below HB.out) k en hen
      obtain ⟨r0, r1, r2⟩ := rowE hrr
      obtain ⟨f1, f2, f3, f4, f5⟩ := FE.out en (List.mem_of_getElem? hen)
      have HEN := Lib.hid hen
      have HST := Lib.hid (any_snoc (f := sameN other) hen)
      clear hrr hen hbs
      subst hAe
      obtain ⟨Nm, ei, ek⟩ := en
      dsimp only at r0 r1 r2 f1 f2 f3 f4 f5
      obtain ⟨nx, hnx⟩ : ∃ nx, gtI L ei = nx := ⟨_, rfl⟩
      rw [hnx] at f4
      obtain ⟨xK, xM, xL, xS, xT⟩ := nx
      dsimp only at f4
      subst f4
      have HE1 := Lib.hid f1
      have HSZ := Lib.hid (show ∀ y ∈ names ++ [Nm], y.size ≤ maxLen from fun y hy => by
        rcases List.mem_append.1 hy with hy | hy
        · exact HNM.out.2.2.2.2.2 y hy
        · obtain rfl : y = Nm := by simpa using hy
          exact f5)
      have HGX := Lib.hid (fun (wx : World) (hb : Below w.heap.size w wx) => show Calls Try.prog 10 #[.slice A n c, .int .u32 (ei : Int)] wx (fun e w' => e = .returned (.tuple #[.agg #[.int .u8 (xK : Int), .int .u16 xM, .int .u32 xL, .int .u32 xS, .string xT], .int .i64 0]) ∧ Below wx.heap.size wx w') by
        have := HG.out wx hb ei f2
        rw [f3, hnx] at this
        exact this)
      obtain ⟨sn, hsn⟩ : ∃ sn, sameN other ⟨Nm, ei, xK⟩ = sn := ⟨_, rfl⟩
      have hsn2 : (Nm.toList == other.toList) = sn := hsn
      obtain ⟨q, hq⟩ : ∃ q, (D.take k).any (sameN other) = q := ⟨_, rfl⟩
      rw [hsn, hq] at HST
      rw [hq]
      clear f1 f2 f3 f5 hnx hsn hq
      go_wp2_with fail
      have HBW := Lib.hid (HB.out.alloc HB.out.size (.cells #[.string Nm, .int .u32 (ei : Int), .int .u8 (xK : Int)] 34))
      have HRW := Lib.hid (heap_alloc_new wr (.cells #[.string Nm, .int .u32 (ei : Int), .int .u8 (xK : Int)] 34))
      generalize wr.alloc (.cells #[.string Nm, .int .u32 (ei : Int), .int .u8 (xK : Int)] 34) = W at *
      generalize wr.heap.size = pb at *
      clear HB r0 r1 r2
      go_cut [14, 15] from 47 to 106 (fun s14 s15 wx => Hid (s14 = .int .u32 (ei : Int) ∧ s15 = .int .i64 0 ∧ wx.heap[pb]? = some (.cells #[.string Nm, .int .u32 (ei : Int), .int .u8 (xK : Int)] 34 (0, 0)) ∧ Below w3.heap.size w3 wx))
      case first =>
        refine wp_region_T (fun w' : World => w'.heap[pb]? = some (.cells #[.string Nm, .int .u32 (ei : Int), .int .u8 (xK : Int)] 34 (0, 0))) 13 (by kernel_rfl) (by kernel_rfl) ?_
        have hS : W.drew.heap[pb]? = some (.cells #[.string Nm, .int .u32 (ei : Int), .int .u8 (xK : Int)] 34 (0, 0)) := HRW.out
        have HB0 := Lib.hid HBW.out.drew
        generalize W.drew = W0 at *
        refine take_T 0 48 (.slice A n c) rfl (by rfl) (by kernel_rfl) (by decide) (by kernel_rfl) (by kernel_rfl) (by kernel_rfl) (fun _ _ _ h => h) (Or.inl ⟨by rfl, fun w' hSw => by go_simp⟩) hS ?_
        simp only [List.setIfInBounds_toArray, List.set_cons_zero, List.set_cons_succ]
        refine take_T 2 50 (.slice A' n' c') rfl (by rfl) (by kernel_rfl) (by decide) (by kernel_rfl) (by kernel_rfl) (by kernel_rfl) (fun _ _ _ h => h) (Or.inl ⟨by rfl, fun w' hSw => by go_simp⟩) hS ?_
        simp only [List.setIfInBounds_toArray, List.set_cons_zero, List.set_cons_succ]
        refine take_T 4 52 (.pointer (some ⟨pb, 0, none⟩)) rfl (by rfl) (by kernel_rfl) (by decide) (by kernel_rfl) (by kernel_rfl) (by kernel_rfl) (fun _ _ _ h => h) (Or.inl ⟨by rfl, fun w' hSw => by go_simp⟩) hS ?_
        simp only [List.setIfInBounds_toArray, List.set_cons_zero, List.set_cons_succ]
        refine take_T 5 53 (.string Nm) rfl (by rfl) (by kernel_rfl) (by decide) (by kernel_rfl) (by kernel_rfl) (by kernel_rfl) (fun _ _ _ h => h) (Or.inl ⟨by rfl, fun w' hSw => by have r := cell_of_row _ _ 0 _ _ _ hSw; go_simp⟩) hS ?_
        simp only [List.setIfInBounds_toArray, List.set_cons_zero, List.set_cons_succ]
        have HRB := Lib.hid hS
        have HBB := Lib.hid HB0.out
        have HN0 := Lib.hid (HNM.out.2.2.2.2.1.below (HB3.out.trans (HB0.out.mono HB3.out.size)))
        refine two_T 1 6 rfl rfl (by kernel_rfl) (by decide) (by decide) (by rfl) (by rfl) (fun K hK => ?_) (fun K hK => ?_)
        · refine op_noS (wb := W0) (Below.refl _ _) rfl ?_
          intro hM
          have HM := Lib.hid hM
          have hal : Below W0.heap.size W0 (W0.alloc (.cells #[] 9)) := (Below.refl _ _).alloc (Nat.le_refl _) _
          have hS2 : (W0.alloc (.cells #[] 9)).heap[pb]? = some (.cells #[.string Nm, .int .u32 (ei : Int), .int .u8 (xK : Int)] 34 (0, 0)) := (hal.block _ (row_lt hS)).trans hS
          have HAL := Lib.hid hal
          have HZ1 := Lib.hid (show (W0.alloc (.cells #[] 9)).heap.size = W0.heap.size + 1 by simp)
          clear hM hal
          refine hK.out _ _ hS2 ?_
          clear hK K
          try simp only [Act.put, List.setIfInBounds_toArray, List.set_cons_zero, List.set_cons_succ]
          clear hS
          have hS := hS2
          clear hS2
          generalize W0.alloc (.cells #[] 9) = W1 at *
          refine two_T 3 6 rfl rfl (by kernel_rfl) (by decide) (by decide) (by rfl) (by rfl) (fun K hK => ?_) (fun K hK => ?_)
          · refine op_catS HM.out names A' n' c' HNM.out.1 (HN0.out.below (HAL.out.mono (HB3.out.trans (HB0.out.mono HB3.out.size)).size)) (by have := HNM.out.1; have := HN6.out; simp only [List.length_nil]; omega) _ _ rfl rfl rfl ?_
            intro v2 w2 hM2 hg2
            have HM := Lib.hid hM2
            have hS2 : w2.heap[pb]? = some (.cells #[.string Nm, .int .u32 (ei : Int), .int .u8 (xK : Int)] 34 (0, 0)) := (hM2.2.block _ (row_lt HRB.out)).trans HRB.out
            clear hM2 hg2
            refine hK.out _ _ hS2 ?_
            clear hK K
            try simp only [Act.put, List.setIfInBounds_toArray, List.set_cons_zero, List.set_cons_succ]
            clear hS
            have hS := hS2
            clear hS2
            refine only_T 6 rfl (by kernel_rfl) (by decide) (by rfl) (fun K hK => ?_)
            go_simp
            have hal : Below w2.heap.size w2 (w2.alloc (.cells #[.string Nm] 9)) := (Below.refl _ _).alloc (Nat.le_refl _) _
            have hS2 : (w2.alloc (.cells #[.string Nm] 9)).heap[pb]? = some (.cells #[.string Nm, .int .u32 (ei : Int), .int .u8 (xK : Int)] 34 (0, 0)) := (hal.block _ (row_lt hS)).trans hS
            have HM := Lib.hid (HM.out.alloc (.cells #[.string Nm] 9))
            have HLr := Lib.hid (Ls.new (enc := en1) (k := 1) w2 Nm 9 (w2.heap.size + 1) (Nat.lt_succ_self _))
            clear hal
            refine hK.out _ _ hS2 ?_
            clear hK K
            try simp only [Act.put, List.setIfInBounds_toArray, List.set_cons_zero, List.set_cons_succ]
            clear hS
            have hS := hS2
            clear hS2
            refine only_T 7 rfl (by kernel_rfl) (by decide) (by rfl) (fun K hK => ?_)
            refine op_catS HM.out [Nm] _ 1 1 rfl HLr.out (by have := HNM.out.1; have := HN6.out; simp only [List.nil_append]; omega) _ _ rfl rfl rfl ?_
            intro v8 w8 hm8 hg8
            simp only [List.nil_append] at hm8
            obtain ⟨A8, c8, rfl, hc8, hc9, hL8⟩ := hm8.ls en1_len
            have HB8 := Lib.hid (HBB.out.trans (hm8.2.mono HBB.out.size))
            have HBW8 := Lib.hid (HB3.out.trans (HB8.out.mono HB3.out.size))
            have hS2 : w8.heap[pb]? = some (.cells #[.string Nm, .int .u32 (ei : Int), .int .u8 (xK : Int)] 34 (0, 0)) := (hm8.2.block _ (row_lt HRB.out)).trans HRB.out
            have HC8 := Lib.hid (HV.out w8 HBW8.out A8 (names.length + 1) c8 Nm ⟨(by rw [List.length_append]; rfl), (by rw [List.length_append] at hc8; exact hc8), hc9, by have := HNM.out.1; have := HN6.out; omega, hL8, HSZ.out⟩)
            rw [HE1.out] at HC8
            rw [List.length_append, List.length_singleton]
            clear hm8 hg8 hc8 hc9 hL8
            refine hK.out _ _ hS2 ?_
            clear hK K
            try simp only [Act.put, List.setIfInBounds_toArray, List.set_cons_zero, List.set_cons_succ]
            clear hS
            have hS := hS2
            clear hS2
            refine only_T 8 rfl (by kernel_rfl) (by decide) (by rfl) (fun K hK => ?_)
            go_wp2_with fail
            (with_reducible refine HC8.out.mono ?_)
            rintro e' w9 ⟨rfl, hb⟩
            have HB9 := Lib.hid (HB8.out.trans (hb.mono HB8.out.size))
            have hS2 : w9.heap[pb]? = some (.cells #[.string Nm, .int .u32 (ei : Int), .int .u8 (xK : Int)] 34 (0, 0)) := (hb.block _ (row_lt hS)).trans hS
            clear hb
            refine hK.out _ _ hS2 ?_
            clear hK K
            try simp only [Act.put, List.setIfInBounds_toArray, List.set_cons_zero, List.set_cons_succ]
            clear hS
            have hS := hS2
            clear hS2
            refine take_T 9 47 (.tuple #[.int .u32 (ei : Int), .int .i64 0]) rfl (by rfl) (by kernel_rfl) (by decide) (by kernel_rfl) (by kernel_rfl) (by kernel_rfl) (fun _ _ _ h => h) (Or.inl ⟨by rfl, fun w' hSw => by go_simp⟩) hS ?_
            simp only [List.setIfInBounds_toArray, List.set_cons_zero, List.set_cons_succ]
            refine take_T 10 57 (.int .u32 (ei : Int)) rfl (by rfl) (by kernel_rfl) (by decide) (by kernel_rfl) (by kernel_rfl) (by kernel_rfl) (fun _ _ _ h => h) (Or.inl ⟨by rfl, fun w' hSw => by go_simp⟩) hS ?_
            simp only [List.setIfInBounds_toArray, List.set_cons_zero, List.set_cons_succ]
            refine take_T 11 58 (.int .i64 0) rfl (by rfl) (by kernel_rfl) (by decide) (by kernel_rfl) (by kernel_rfl) (by kernel_rfl) (fun _ _ _ h => h) (Or.inl ⟨by rfl, fun w' hSw => by go_simp⟩) hS ?_
            simp only [List.setIfInBounds_toArray, List.set_cons_zero, List.set_cons_succ]
            refine take_T 12 14 (.int .u32 (ei : Int)) rfl (by rfl) (by kernel_rfl) (by decide) (by kernel_rfl) (by kernel_rfl) (by kernel_rfl) (fun _ _ _ h => h) (Or.inl ⟨by rfl, fun w' hSw => by go_simp⟩) hS ?_
            simp only [List.setIfInBounds_toArray, List.set_cons_zero, List.set_cons_succ]
            refine done_T (by kernel_rfl) ?_
            simp only [List.drop_succ_cons, List.drop_zero]
            have HR9 := Lib.hid hS
            go_wp2_with fail
            go_meet
            exact ⟨rfl, rfl, HR9.out, HB9.out⟩
          · go_simp
            have hal : Below W1.heap.size W1 (W1.alloc (.cells #[.string Nm] 9)) := (Below.refl _ _).alloc (Nat.le_refl _) _
            have hS2 : (W1.alloc (.cells #[.string Nm] 9)).heap[pb]? = some (.cells #[.string Nm, .int .u32 (ei : Int), .int .u8 (xK : Int)] 34 (0, 0)) := (hal.block _ (row_lt hS)).trans hS
            have HM := Lib.hid (HM.out.alloc (.cells #[.string Nm] 9))
            have hal2 := HAL.out.trans (hal.mono HAL.out.size)
            have HQ := Lib.hid (heap_alloc_new W1 (.cells #[.string Nm] 9))
            have HZ2 := Lib.hid (show W1.heap.size < (W1.alloc (.cells #[.string Nm] 9)).heap.size by simp)
            refine hK.out _ _ hS2 ?_
            clear hK K
            try simp only [Act.put, List.setIfInBounds_toArray, List.set_cons_zero, List.set_cons_succ]
            clear hS
            have hS := hS2
            clear hS2
            refine only_T 3 rfl (by kernel_rfl) (by decide) (by rfl) (fun K hK => ?_)
            refine op_catS HM.out names A' n' c' HNM.out.1 (HN0.out.below (hal2.mono (HB3.out.trans (HB0.out.mono HB3.out.size)).size)) (by have := HNM.out.1; have := HN6.out; simp only [List.length_nil]; omega) _ _ rfl rfl rfl ?_
            intro v2 w2 hM2 hg2
            have HM := Lib.hid hM2
            have hS2 : w2.heap[pb]? = some (.cells #[.string Nm, .int .u32 (ei : Int), .int .u8 (xK : Int)] 34 (0, 0)) := (hM2.2.block _ (row_lt HRB.out)).trans HRB.out
            have HQ2 := Lib.hid ((hg2.block W1.heap.size HZ2.out (fun e => by have := HZ1.out; have h3 : some W1.heap.size = some W0.heap.size := e; have h4 := Option.some.inj h3; omega)).trans HQ.out)
            have HLr := Lib.hid (ls_row HQ2.out)
            clear hM2 hg2 hal hal2
            refine hK.out _ _ hS2 ?_
            clear hK K
            try simp only [Act.put, List.setIfInBounds_toArray, List.set_cons_zero, List.set_cons_succ]
            clear hS
            have hS := hS2
            clear hS2
            refine only_T 7 rfl (by kernel_rfl) (by decide) (by rfl) (fun K hK => ?_)
            refine op_catS HM.out [Nm] _ 1 1 rfl HLr.out (by have := HNM.out.1; have := HN6.out; simp only [List.nil_append]; omega) _ _ rfl rfl rfl ?_
            intro v8 w8 hm8 hg8
            simp only [List.nil_append] at hm8
            obtain ⟨A8, c8, rfl, hc8, hc9, hL8⟩ := hm8.ls en1_len
            have HB8 := Lib.hid (HBB.out.trans (hm8.2.mono HBB.out.size))
            have HBW8 := Lib.hid (HB3.out.trans (HB8.out.mono HB3.out.size))
            have hS2 : w8.heap[pb]? = some (.cells #[.string Nm, .int .u32 (ei : Int), .int .u8 (xK : Int)] 34 (0, 0)) := (hm8.2.block _ (row_lt HRB.out)).trans HRB.out
            have HC8 := Lib.hid (HV.out w8 HBW8.out A8 (names.length + 1) c8 Nm ⟨(by rw [List.length_append]; rfl), (by rw [List.length_append] at hc8; exact hc8), hc9, by have := HNM.out.1; have := HN6.out; omega, hL8, HSZ.out⟩)
            rw [HE1.out] at HC8
            rw [List.length_append, List.length_singleton]
            clear hm8 hg8 hc8 hc9 hL8
            refine hK.out _ _ hS2 ?_
            clear hK K
            try simp only [Act.put, List.setIfInBounds_toArray, List.set_cons_zero, List.set_cons_succ]
            clear hS
            have hS := hS2
            clear hS2
            refine only_T 8 rfl (by kernel_rfl) (by decide) (by rfl) (fun K hK => ?_)
            go_wp2_with fail
            (with_reducible refine HC8.out.mono ?_)
            rintro e' w9 ⟨rfl, hb⟩
            have HB9 := Lib.hid (HB8.out.trans (hb.mono HB8.out.size))
            have hS2 : w9.heap[pb]? = some (.cells #[.string Nm, .int .u32 (ei : Int), .int .u8 (xK : Int)] 34 (0, 0)) := (hb.block _ (row_lt hS)).trans hS
            clear hb
            refine hK.out _ _ hS2 ?_
            clear hK K
            try simp only [Act.put, List.setIfInBounds_toArray, List.set_cons_zero, List.set_cons_succ]
            clear hS
            have hS := hS2
            clear hS2
            refine take_T 9 47 (.tuple #[.int .u32 (ei : Int), .int .i64 0]) rfl (by rfl) (by kernel_rfl) (by decide) (by kernel_rfl) (by kernel_rfl) (by kernel_rfl) (fun _ _ _ h => h) (Or.inl ⟨by rfl, fun w' hSw => by go_simp⟩) hS ?_
            simp only [List.setIfInBounds_toArray, List.set_cons_zero, List.set_cons_succ]
            refine take_T 10 57 (.int .u32 (ei : Int)) rfl (by rfl) (by kernel_rfl) (by decide) (by kernel_rfl) (by kernel_rfl) (by kernel_rfl) (fun _ _ _ h => h) (Or.inl ⟨by rfl, fun w' hSw => by go_simp⟩) hS ?_
            simp only [List.setIfInBounds_toArray, List.set_cons_zero, List.set_cons_succ]
            refine take_T 11 58 (.int .i64 0) rfl (by rfl) (by kernel_rfl) (by decide) (by kernel_rfl) (by kernel_rfl) (by kernel_rfl) (fun _ _ _ h => h) (Or.inl ⟨by rfl, fun w' hSw => by go_simp⟩) hS ?_
            simp only [List.setIfInBounds_toArray, List.set_cons_zero, List.set_cons_succ]
            refine take_T 12 14 (.int .u32 (ei : Int)) rfl (by rfl) (by kernel_rfl) (by decide) (by kernel_rfl) (by kernel_rfl) (by kernel_rfl) (fun _ _ _ h => h) (Or.inl ⟨by rfl, fun w' hSw => by go_simp⟩) hS ?_
            simp only [List.setIfInBounds_toArray, List.set_cons_zero, List.set_cons_succ]
            refine done_T (by kernel_rfl) ?_
            simp only [List.drop_succ_cons, List.drop_zero]
            have HR9 := Lib.hid hS
            go_wp2_with fail
            go_meet
            exact ⟨rfl, rfl, HR9.out, HB9.out⟩
        · go_simp
          have hal : Below W0.heap.size W0 (W0.alloc (.cells #[.string Nm] 9)) := (Below.refl _ _).alloc (Nat.le_refl _) _
          have hS2 : (W0.alloc (.cells #[.string Nm] 9)).heap[pb]? = some (.cells #[.string Nm, .int .u32 (ei : Int), .int .u8 (xK : Int)] 34 (0, 0)) := (hal.block _ (row_lt hS)).trans hS
          have HBB := Lib.hid (HBB.out.trans (hal.mono HBB.out.size))
          have HQ := Lib.hid (heap_alloc_new W0 (.cells #[.string Nm] 9))
          have HN1 := Lib.hid (HN0.out.below (hal.mono (HB3.out.trans (HB0.out.mono HB3.out.size)).size))
          have HRB := Lib.hid hS2
          clear hal
          refine hK.out _ _ hS2 ?_
          clear hK K
          try simp only [Act.put, List.setIfInBounds_toArray, List.set_cons_zero, List.set_cons_succ]
          clear hS
          have hS := hS2
          clear hS2
          generalize W0.alloc (.cells #[.string Nm] 9) = W1 at *
          generalize W0.heap.size = r at *
          refine only_T 1 rfl (by kernel_rfl) (by decide) (by rfl) (fun K hK => ?_)
          refine op_noS (wb := W1) (Below.refl _ _) rfl ?_
          intro hM
          have HM := Lib.hid hM
          have hal : Below W1.heap.size W1 (W1.alloc (.cells #[] 9)) := (Below.refl _ _).alloc (Nat.le_refl _) _
          have hS2 : (W1.alloc (.cells #[] 9)).heap[pb]? = some (.cells #[.string Nm, .int .u32 (ei : Int), .int .u8 (xK : Int)] 34 (0, 0)) := (hal.block _ (row_lt hS)).trans hS
          have HN2 := Lib.hid (HN1.out.below (hal.mono (HB3.out.trans (HBB.out.mono HB3.out.size)).size))
          clear hM hal
          refine hK.out _ _ hS2 ?_
          clear hK K
          try simp only [Act.put, List.setIfInBounds_toArray, List.set_cons_zero, List.set_cons_succ]
          clear hS
          have hS := hS2
          clear hS2
          refine only_T 3 rfl (by kernel_rfl) (by decide) (by rfl) (fun K hK => ?_)
          refine op_catS HM.out names A' n' c' HNM.out.1 HN2.out (by have := HNM.out.1; have := HN6.out; simp only [List.length_nil]; omega) _ _ rfl rfl rfl ?_
          intro v2 w2 hM2 hg2
          have HM := Lib.hid hM2
          have hS2 : w2.heap[pb]? = some (.cells #[.string Nm, .int .u32 (ei : Int), .int .u8 (xK : Int)] 34 (0, 0)) := (hM2.2.block _ (row_lt HRB.out)).trans HRB.out
          have HQ2 := Lib.hid ((hM2.2.block r (row_lt HQ.out)).trans HQ.out)
          have HLr := Lib.hid (ls_row HQ2.out)
          clear hM2 hg2
          refine hK.out _ _ hS2 ?_
          clear hK K
          try simp only [Act.put, List.setIfInBounds_toArray, List.set_cons_zero, List.set_cons_succ]
          clear hS
          have hS := hS2
          clear hS2
          refine only_T 7 rfl (by kernel_rfl) (by decide) (by rfl) (fun K hK => ?_)
          refine op_catS HM.out [Nm] _ 1 1 rfl HLr.out (by have := HNM.out.1; have := HN6.out; simp only [List.nil_append]; omega) _ _ rfl rfl rfl ?_
          intro v8 w8 hm8 hg8
          simp only [List.nil_append] at hm8
          obtain ⟨A8, c8, rfl, hc8, hc9, hL8⟩ := hm8.ls en1_len
          have HB8 := Lib.hid (HBB.out.trans (hm8.2.mono HBB.out.size))
          have HBW8 := Lib.hid (HB3.out.trans (HB8.out.mono HB3.out.size))
          have hS2 : w8.heap[pb]? = some (.cells #[.string Nm, .int .u32 (ei : Int), .int .u8 (xK : Int)] 34 (0, 0)) := (hm8.2.block _ (row_lt HRB.out)).trans HRB.out
          have HC8 := Lib.hid (HV.out w8 HBW8.out A8 (names.length + 1) c8 Nm ⟨(by rw [List.length_append]; rfl), (by rw [List.length_append] at hc8; exact hc8), hc9, by have := HNM.out.1; have := HN6.out; omega, hL8, HSZ.out⟩)
          rw [HE1.out] at HC8
          rw [List.length_append, List.length_singleton]
          clear hm8 hg8 hc8 hc9 hL8
          refine hK.out _ _ hS2 ?_
          clear hK K
          try simp only [Act.put, List.setIfInBounds_toArray, List.set_cons_zero, List.set_cons_succ]
          clear hS
          have hS := hS2
          clear hS2
          refine only_T 8 rfl (by kernel_rfl) (by decide) (by rfl) (fun K hK => ?_)
          go_wp2_with fail
          (with_reducible refine HC8.out.mono ?_)
          rintro e' w9 ⟨rfl, hb⟩
          have HB9 := Lib.hid (HB8.out.trans (hb.mono HB8.out.size))
          have hS2 : w9.heap[pb]? = some (.cells #[.string Nm, .int .u32 (ei : Int), .int .u8 (xK : Int)] 34 (0, 0)) := (hb.block _ (row_lt hS)).trans hS
          clear hb
          refine hK.out _ _ hS2 ?_
          clear hK K
          try simp only [Act.put, List.setIfInBounds_toArray, List.set_cons_zero, List.set_cons_succ]
          clear hS
          have hS := hS2
          clear hS2
          refine take_T 9 47 (.tuple #[.int .u32 (ei : Int), .int .i64 0]) rfl (by rfl) (by kernel_rfl) (by decide) (by kernel_rfl) (by kernel_rfl) (by kernel_rfl) (fun _ _ _ h => h) (Or.inl ⟨by rfl, fun w' hSw => by go_simp⟩) hS ?_
          simp only [List.setIfInBounds_toArray, List.set_cons_zero, List.set_cons_succ]
          refine take_T 10 57 (.int .u32 (ei : Int)) rfl (by rfl) (by kernel_rfl) (by decide) (by kernel_rfl) (by kernel_rfl) (by kernel_rfl) (fun _ _ _ h => h) (Or.inl ⟨by rfl, fun w' hSw => by go_simp⟩) hS ?_
          simp only [List.setIfInBounds_toArray, List.set_cons_zero, List.set_cons_succ]
          refine take_T 11 58 (.int .i64 0) rfl (by rfl) (by kernel_rfl) (by decide) (by kernel_rfl) (by kernel_rfl) (by kernel_rfl) (fun _ _ _ h => h) (Or.inl ⟨by rfl, fun w' hSw => by go_simp⟩) hS ?_
          simp only [List.setIfInBounds_toArray, List.set_cons_zero, List.set_cons_succ]
          refine take_T 12 14 (.int .u32 (ei : Int)) rfl (by rfl) (by kernel_rfl) (by decide) (by kernel_rfl) (by kernel_rfl) (by kernel_rfl) (fun _ _ _ h => h) (Or.inl ⟨by rfl, fun w' hSw => by go_simp⟩) hS ?_
          simp only [List.setIfInBounds_toArray, List.set_cons_zero, List.set_cons_succ]
          refine done_T (by kernel_rfl) ?_
          simp only [List.drop_succ_cons, List.drop_zero]
          have HR9 := Lib.hid hS
          go_wp2_with fail
          go_meet
          exact ⟨rfl, rfl, HR9.out, HB9.out⟩
      case rest =>
        obtain ⟨hs1, hs2, hr, hb⟩ := Hid.out hcut
        subst hs1 hs2
        have HRW := Lib.hid hr
        have HB7 := Lib.hid hb
        have HBW7 := Lib.hid (HB3.out.trans (hb.mono HB3.out.size))
        have h1 : World.cell? _ ⟨pb, 1, none⟩ = some (.int .u32 (ei : Int)) := cell_of_row _ _ 1 _ _ _ hr
        clear hcut hr hb
        go_wp2_with (go_at_call 10; (with_reducible refine (HGX.out _ HBW7.out).mono ?_); rintro e w6 ⟨rfl, hb⟩; have hx := hb.alloc hb.size (.cells #[.int .u8 (xK : Int), .int .u16 xM, .int .u32 xL, .int .u32 xS, .string xT] 37); have HB8 := Lib.hid (HB7.out.trans (hx.mono HB7.out.size)); have x0 : (w6.alloc (.cells #[.int .u8 (xK : Int), .int .u16 xM, .int .u32 xL, .int .u32 xS, .string xT] 37)).cell? ⟨w6.heap.size, 0, none⟩ = some (.int .u8 (xK : Int)) := cell_of_row _ _ 0 _ _ _ (heap_alloc_new w6 _); have q := (hx.block pb (row_lt HRW.out)).trans HRW.out; have q0 : (w6.alloc (.cells #[.int .u8 (xK : Int), .int .u16 xM, .int .u32 xL, .int .u32 xS, .string xT] 37)).cell? ⟨pb, 0, none⟩ = some (.string Nm) := cell_of_row _ _ 0 _ _ _ q; have q1 : (w6.alloc (.cells #[.int .u8 (xK : Int), .int .u16 xM, .int .u32 xL, .int .u32 xS, .string xT] 37)).cell? ⟨pb, 1, none⟩ = some (.int .u32 (ei : Int)) := cell_of_row _ _ 1 _ _ _ q; have q2 : (w6.alloc (.cells #[.int .u8 (xK : Int), .int .u16 xM, .int .u32 xL, .int .u32 xS, .string xT] 37)).cell? ⟨pb, 2, none⟩ = some (.int .u8 (xK : Int)) := cell_of_row _ _ 2 _ _ _ q; have HL6 := Lib.hid (HL5.out.below HB8.out); have HQ6 := Lib.hid q; clear hb hx q)
        by_cases hk0 : k = 0
        · subst hk0
          have k1 : decide ((0 : Int) < ((0 : Nat) : Int)) = false := by decide
          generalize w6.alloc (.cells #[.int .u8 (xK : Int), .int .u16 xM, .int .u32 xL, .int .u32 xS, .string xT] 37) = W6 at *
          generalize w6.heap.size = xb at *
          go_quiet (fail)
          have HB9 := Lib.hid (It.below_drewN HB8.out nq)
          have q0 := (cell_of_row _ _ 0 _ _ _ (show (World.drewN W6 nq).heap[pb]? = some (.cells #[.string Nm, .int .u32 (ei : Int), .int .u8 (xK : Int)] 34 (0, 0)) from HQ6.out))
          generalize World.drewN _ _ = W2 at *
          cases q <;> cases sn <;>
            (go_wp2_with fail
             exact ⟨⟨0 + 1, by omega, by rw [HST.out]; simp, by go_num, HB9.out⟩, by simp [intOf] <;> omega⟩)
        · obtain ⟨m, rfl⟩ : ∃ m, k = m + 1 := ⟨k - 1, by omega⟩
          have hk1 : ((m + 1 : Nat) : Int) - 1 = (m : Int) := by omega
          have hk2 : (0 : Int) < ((m + 1 : Nat) : Int) := by omega
          have hk3 : (m : Int) < (D.length : Int) := by omega
          obtain ⟨y, hy⟩ : ∃ y, D[m]? = some y := ⟨_, List.getElem?_eq_getElem (by omega)⟩
          obtain ⟨b2, o2, hAe, hb2, hr⟩ := HL6.out m y hy
          cases hAe
          have hcy : (w6.alloc (.cells #[.int .u8 (xK : Int), .int .u16 xM, .int .u32 xL, .int .u32 xS, .string xT] 37)).cell? ⟨b, o + m * 3, none⟩ = some (.string y.n) := hr 0 _ rfl
          have hl0 : By.bl y.n.data.toList Nm.data.toList = true := rise_at FR.out hy HEN.out
          have hl1 : Op.bytesLess y.n.toList Nm.toList = true := by
            rw [ByteArray.toList_eq, ByteArray.toList_eq]; exact hl0
          clear hl0
          clear hr hy hb2
          generalize w6.alloc (.cells #[.int .u8 (xK : Int), .int .u16 xM, .int .u32 xL, .int .u32 xS, .string xT] 37) = W6 at *
          generalize w6.heap.size = xb at *
          go_quiet (fail)
          have HB9 := Lib.hid (It.below_drewN HB8.out nq)
          have q0 := (cell_of_row _ _ 0 _ _ _ (show (World.drewN W6 nq).heap[pb]? = some (.cells #[.string Nm, .int .u32 (ei : Int), .int .u8 (xK : Int)] 34 (0, 0)) from HQ6.out))
          generalize World.drewN _ _ = W2 at *
          cases q <;> cases sn <;>
            (go_wp2_with fail
             exact ⟨⟨m + 1 + 1, by omega, by rw [HST.out]; simp, by go_num, HB9.out⟩, by simp [intOf] <;> omega⟩)
    · obtain rfl : k = D.length := by omega
      rw [List.take_length]
      have HSZ := Lib.hid (show ∀ y ∈ names ++ [other], y.size ≤ maxLen from fun y hy => by
        rcases List.mem_append.1 hy with hy | hy
        · exact HNM.out.2.2.2.2.2 y hy
        · obtain rfl : y = other := by simpa using hy
          exact HSO.out)
      obtain ⟨Y, hY⟩ : ∃ Y, wlk L false (names ++ [other]) = Y := ⟨_, rfl⟩
      have FA2 := FA.out
      rw [hY] at FA2
      have HE1 := Lib.hid hY
      obtain ⟨yi, ye⟩ := Y
      dsimp only at FA2
      generalize D.any (sameN other) = q at *
      have HBW := Lib.hid (HB3.out.trans (HB.out.mono HB3.out.size))
      have HN0 := Lib.hid (HNM.out.2.2.2.2.1.below HBW.out)
      clear hY
      go_wp2_with (first
        | (refine wpList_noS (wb := wr) (Below.refl _ _) rfl rfl ?_; intro hM; have HM := Lib.hid hM; have HN1 := Lib.hid (HN0.out.below (hM.2.mono HBW.out.size)); clear hM)
        | (refine catS HM.out names A' n' c' HNM.out.1 HN1.out (by have := HNM.out.1; have := HN6.out; simp only [List.length_nil]; omega) rfl _ _ rfl rfl rfl ?_; intro v2 w2 hM2 hg2; have HM2 := Lib.hid (hM2.alloc (.cells #[.string other] 9)); have HLr := Lib.hid (Ls.new (enc := en1) (k := 1) w2 other 9 (w2.heap.size + 1) (Nat.lt_succ_self _)); clear hM2 hg2)
        | (refine catS HM2.out [other] _ 1 1 rfl HLr.out (by have := HNM.out.1; have := HN6.out; simp only [List.nil_append]; omega) rfl _ _ rfl rfl rfl ?_; intro v8 w8 hm8 hg8; simp only [List.nil_append] at hm8; obtain ⟨A8, c8, rfl, hc8, hc9, hL8⟩ := hm8.ls en1_len; have HBW8 := Lib.hid (HBW.out.trans (hm8.2.mono HBW.out.size)); have HC8 := Lib.hid (HV.out w8 HBW8.out A8 (names.length + 1) c8 other ⟨(by rw [List.length_append]; rfl), (by rw [List.length_append] at hc8; exact hc8), hc9, by have := HNM.out.1; have := HN6.out; omega, hL8, HSZ.out⟩); rw [HE1.out] at HC8; clear hm8 hg8 hc8 hc9 hL8)
        | (go_at_call 8; (with_reducible refine HC8.out.mono ?_); rintro e w9 ⟨rfl, hb⟩; have HB9 := Lib.hid (HBW8.out.trans (hb.mono HBW8.out.size)); clear hb))
      go_ret
      exact ⟨by simp, HB9.out⟩
end Go.Proofs.Ytngcogjjcidccaa.Di
