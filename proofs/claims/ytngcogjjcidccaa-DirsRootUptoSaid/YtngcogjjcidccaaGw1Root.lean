/- The walks of DirsLinks and DirsWay. -/
import Derived.Test.YtngcogjjcidccaaGb2
namespace Go.Proofs.Ytngcogjjcidccaa.Di
set_option linter.unusedVariables false
set_option linter.unusedSimpArgs false
set_option maxRecDepth 100000
open Go.ChangeShapes Go.WideShapes Go.ChangeAt Go.RowKit
open BigFrame
open Ar Rg
open Ino
open It (Itm)
open Ph (en1 en1_len spX spB)
variable {w w' wr : World} {L : List Itm}
theorem ent_ino (h : rgt L = true) (k : Ky) (j : Nat) (he : (vo (pts L)).ent k = some j) : ((vo (pts L)).ino j).isSome = true := by
  obtain ⟨p, hp, h2, rfl, rfl⟩ := ent_of _ he
  obtain ⟨n, hn⟩ := (stray_2 ((rgt_iff.1 h).str p hp) h2).2
  rw [he] at hn
  show ((vo (pts L)).ino (numOf p.v)).isSome = true
  have hn' : (vo (pts L)).ino (numOf p.v) = some n := hn
  rw [hn']; rfl
theorem ent_lt (k : Ky) (j : Nat) (he : (vo (pts L)).ent k = some j) : j < 4294967296 := by
  obtain ⟨p, _, _, _, rfl⟩ := ent_of _ he
  exact numOf_lt _
theorem wkN_lt {s : Vo} {fo : Bool} {nx : ByteArray → List ByteArray → Nat × Int} (hE : ∀ k j, s.ent k = some j → j < 4294967296) (hx : ∀ t ys, (nx t ys).1 < 4294967296) : ∀ (xs : List ByteArray) (a : Nat), a < 4294967296 → (wkN s fo nx a xs).1 < 4294967296
  | [], a, ha => ha
  | x :: xs, a, ha => by
    simp only [wkN]
    by_cases hk : kind s a ≠ 1
    · rw [if_pos hk]; exact (by decide : (0 : Nat) < 4294967296)
    · rw [if_neg hk]
      cases he : s.ent ⟨2, a, x, 0⟩ with
      | none => exact (by decide : (0 : Nat) < 4294967296)
      | some j =>
        dsimp only
        by_cases hc : (decide (kind s j ≠ 3) || (xs.isEmpty && !fo)) = true
        · rw [if_pos hc]; exact wkN_lt hE hx xs j (hE _ _ he)
        · rw [if_neg hc]; exact hx _ _
theorem wkL_lt {s : Vo} {fo : Bool} (hE : ∀ k j, s.ent k = some j → j < 4294967296) : ∀ (r : Nat) (xs : List ByteArray) (a : Nat), a < 4294967296 → (wkL s fo r a xs).1 < 4294967296
  | 0, xs, a, ha => wkN_lt hE (fun _ _ => (by decide : (0 : Nat) < 4294967296)) xs a ha
  | r + 1, xs, a, ha => wkN_lt hE (fun t ys => by
    split
    · exact wkL_lt hE r _ 1 (by decide)
    · exact (by decide : (0 : Nat) < 4294967296)) xs a ha
theorem wlk_lt (L : List Itm) (fo : Bool) (names : List ByteArray) : (wlk L fo names).1 < 4294967296 := by
  unfold wlk
  split
  · exact wkL_lt (fun k j h => ent_lt k j h) 8 names 1 (by decide)
  · exact (by decide : (0 : Nat) < 4294967296)
theorem gt_of (h : rgt L = true) {i : Nat} (hi : ((vo (pts L)).ino i).isSome = true) : gtE L i = 0 ∧ (gtI L i).K = kind (vo (pts L)) i := by
  unfold gtE gtI
  rw [h, if_pos rfl, if_pos rfl, if_pos hi, kind_get]
  exact ⟨rfl, rfl⟩
theorem kind_is {s : Vo} {i : Nat} (h : kind s i ≠ 0) : (s.ino i).isSome = true := by
  obtain ⟨n, hn, _⟩ := kind_some h
  rw [hn]; rfl
theorem root_is (h : rgt L = true) : kind (vo (pts L)) 1 = 1 ∧ ((vo (pts L)).ino 1).isSome = true := ⟨(rgt_iff.1 h).root, kind_is (by rw [(rgt_iff.1 h).root]; decide)⟩
theorem lnk_facts (L : List Itm) (names : List ByteArray) : ((wlk L true names).2 = 0 → gtE L (wlk L true names).1 = 0 ∧ (gtI L (wlk L true names).1).K ≠ 3 ∧ (wlk L false names).2 = 0) ∧ ((wlk L false names).2 ≠ 0 → (wlk L true names).2 = (wlk L false names).2) ∧
    ((wlk L false names).2 = 0 → gtE L (wlk L false names).1 = 0 ∧ ((gtI L (wlk L false names).1).K = 3 ∨ ((wlk L true names).2 = 0 ∧ (wlk L true names).1 = (wlk L false names).1))) := by
  unfold wlk
  cases hr : rgt L
  · refine ⟨fun h => ?_, fun _ => rfl, fun h => ?_⟩
    · cases h
    · cases h
  · simp only [if_true]
    have h := wkL_lnk (vo (pts L)) (fun k j he => ent_ino hr k j he) (root_is hr).1 8 names 1 (by rw [(root_is hr).1]; decide) (root_is hr).2
    refine ⟨fun h1 => ?_, h.2.1, fun h1 => ?_⟩
    · obtain ⟨a, b, c⟩ := h.1 h1
      have g := gt_of hr b
      exact ⟨g.1, by rw [g.2]; exact a, c⟩
    · obtain ⟨a, b⟩ := h.2.2 h1
      have g := gt_of hr a
      exact ⟨g.1, by rw [g.2]; exact b⟩
set_option maxHeartbeats 4000000 in
theorem dirsLinks_walk {A A' : Option Addr} {n n' c' : Nat} (c : Nat) {names : List ByteArray} (h : ItA w A n L) (hN : NmA w A' n' c' names) :
    Calls Try.prog 4 #[.slice A n c, .slice A' n' c'] w fun e w' => e = .returned (.bool true) ∧ Below w.heap.size w w' := by
  have HLV := Lib.hid (lives_any w)
  have HW := Lib.hid (fun (wx : World) (hb : Below w.heap.size w wx) => Walk_any c true (h.go hb) (hN.go hb))
  have HV := Lib.hid (fun (wx : World) (hb : Below w.heap.size w wx) => Walk_any c false (h.go hb) (hN.go hb))
  obtain ⟨f1, f2, f3⟩ := lnk_facts L names
  have l1 := wlk_lt L true names
  have l2 := wlk_lt L false names
  generalize wlk L true names = P at *
  generalize wlk L false names = Q at *
  obtain ⟨a, x⟩ := P
  obtain ⟨b, y⟩ := Q
  dsimp only at f1 f2 f3 l1 l2 HW HV
  have HG := Lib.hid (fun (wx : World) (hb : Below w.heap.size w wx) (i : Nat) (hi : i < 4294967296) => Get_any c i hi (h.go hb))
  have F1 := Lib.hid f1
  have F2 := Lib.hid f2
  have F3 := Lib.hid f3
  clear h hN f1 f2 f3
  by_cases hy : y = 0
  · subst hy
    obtain ⟨gb, hb3⟩ := F3.out rfl
    have HGB := Lib.hid (fun (wx : World) (hb : Below w.heap.size w wx) => HG.out wx hb b l2)
    obtain ⟨nb, hnb⟩ : ∃ nb, gtI L b = nb := ⟨_, rfl⟩
    rw [gb, hnb] at HGB
    rw [hnb] at hb3
    have HB3 := Lib.hid hb3
    obtain ⟨bK, bM, bL, bS, bT⟩ := nb
    unfold vI at HGB
    dsimp only at HGB HB3
    clear gb hb3 hnb
    by_cases hx : x = 0
    · subst hx
      obtain ⟨ga, ha3, _⟩ := F1.out rfl
      have HGA := Lib.hid (fun (wx : World) (hb : Below w.heap.size w wx) => HG.out wx hb a l1)
      obtain ⟨na, hna⟩ : ∃ na, gtI L a = na := ⟨_, rfl⟩
      rw [ga, hna] at HGA
      rw [hna] at ha3
      obtain ⟨aK, aM, aL, aS, aT⟩ := na
      unfold vI at HGA
      dsimp only at HGA ha3
      have e3 : ((aK : Int) == 3) = false := eqz3 (decide_eq_false ha3)
      clear ga ha3 hna F1 F2 F3 HG
      by_cases hb3 : bK = 3
      · have e4 : ((bK : Int) == 3) = true := eqz3 (decide_eq_true hb3)
        clear hb3 HB3
        go_enter Try.func4, Try.ntmps4
        go_wp2_with (first
          | (go_at_call 7; (with_reducible refine HLV.out.mono ?_); rintro e w1 ⟨rfl, hb⟩; have HB1 := Lib.hid hb; clear hb)
          | (go_at_call 8; (with_reducible refine (HW.out _ HB1.out).mono ?_); rintro e w2 ⟨rfl, hb⟩; have HB2 := Lib.hid (HB1.out.trans (hb.mono HB1.out.size)); clear hb)
          | (go_at_call 8; (with_reducible refine (HV.out _ HB2.out).mono ?_); rintro e w3 ⟨rfl, hb⟩; have HB3 := Lib.hid (HB2.out.trans (hb.mono HB2.out.size)); clear hb)
          | (go_at_call 10; (with_reducible refine (HGA.out _ HB3.out).mono ?_); rintro e w4 ⟨rfl, hb⟩; have HB4 := Lib.hid (HB3.out.trans (hb.mono HB3.out.size)); clear hb; have ka : (w4.alloc (.cells #[.int .u8 aK, .int .u16 aM, .int .u32 aL, .int .u32 aS, .string aT] 37)).cell? ⟨w4.heap.size, 0, none⟩ = some (.int .u8 aK) := cell_of_row _ _ 0 _ _ _ (heap_alloc_new w4 _); have HC4 := Lib.hid (HB4.out.alloc HB4.out.size (.cells #[.int .u8 aK, .int .u16 aM, .int .u32 aL, .int .u32 aS, .string aT] 37)))
          | (go_at_call 10; (with_reducible refine (HGB.out _ HC4.out).mono ?_); rintro e w5 ⟨rfl, hb⟩; have HB5 := Lib.hid (HC4.out.trans (hb.mono HC4.out.size)); clear hb; have kb : (w5.alloc (.cells #[.int .u8 bK, .int .u16 bM, .int .u32 bL, .int .u32 bS, .string bT] 37)).cell? ⟨w5.heap.size, 0, none⟩ = some (.int .u8 bK) := cell_of_row _ _ 0 _ _ _ (heap_alloc_new w5 _); have HC5 := Lib.hid (HB5.out.alloc HB5.out.size (.cells #[.int .u8 bK, .int .u16 bM, .int .u32 bL, .int .u32 bS, .string bT] 37))))
        go_ret
        exact ⟨rfl, HC5.out⟩
      · have e4 : ((bK : Int) == 3) = false := eqz3 (decide_eq_false hb3)
        obtain rfl : a = b := by
          rcases HB3.out with h | h
          · exact absurd h hb3
          · exact h.2
        clear hb3 HB3
        go_enter Try.func4, Try.ntmps4
        go_wp2_with (first
          | (go_at_call 7; (with_reducible refine HLV.out.mono ?_); rintro e w1 ⟨rfl, hb⟩; have HB1 := Lib.hid hb; clear hb)
          | (go_at_call 8; (with_reducible refine (HW.out _ HB1.out).mono ?_); rintro e w2 ⟨rfl, hb⟩; have HB2 := Lib.hid (HB1.out.trans (hb.mono HB1.out.size)); clear hb)
          | (go_at_call 8; (with_reducible refine (HV.out _ HB2.out).mono ?_); rintro e w3 ⟨rfl, hb⟩; have HB3 := Lib.hid (HB2.out.trans (hb.mono HB2.out.size)); clear hb)
          | (go_at_call 10; (with_reducible refine (HGA.out _ HB3.out).mono ?_); rintro e w4 ⟨rfl, hb⟩; have HB4 := Lib.hid (HB3.out.trans (hb.mono HB3.out.size)); clear hb; have ka : (w4.alloc (.cells #[.int .u8 aK, .int .u16 aM, .int .u32 aL, .int .u32 aS, .string aT] 37)).cell? ⟨w4.heap.size, 0, none⟩ = some (.int .u8 aK) := cell_of_row _ _ 0 _ _ _ (heap_alloc_new w4 _); have HC4 := Lib.hid (HB4.out.alloc HB4.out.size (.cells #[.int .u8 aK, .int .u16 aM, .int .u32 aL, .int .u32 aS, .string aT] 37)))
          | (go_at_call 10; (with_reducible refine (HGB.out _ HC4.out).mono ?_); rintro e w5 ⟨rfl, hb⟩; have HB5 := Lib.hid (HC4.out.trans (hb.mono HC4.out.size)); clear hb; have kb : (w5.alloc (.cells #[.int .u8 bK, .int .u16 bM, .int .u32 bL, .int .u32 bS, .string bT] 37)).cell? ⟨w5.heap.size, 0, none⟩ = some (.int .u8 bK) := cell_of_row _ _ 0 _ _ _ (heap_alloc_new w5 _); have HC5 := Lib.hid (HB5.out.alloc HB5.out.size (.cells #[.int .u8 bK, .int .u16 bM, .int .u32 bL, .int .u32 bS, .string bT] 37))))
        go_ret
        exact ⟨rfl, HC5.out⟩
    · have hb3 : bK = 3 := by
        rcases HB3.out with h | h
        · exact h
        · exact absurd h.1 hx
      have e4 : ((bK : Int) == 3) = true := eqz3 (decide_eq_true hb3)
      have e5 : (x == 0) = false := by rw [eq0]; exact decide_eq_false hx
      clear hb3 HB3 hx
      go_enter Try.func4, Try.ntmps4
      go_wp2_with (first
        | (go_at_call 7; (with_reducible refine HLV.out.mono ?_); rintro e w1 ⟨rfl, hb⟩; have HB1 := Lib.hid hb; clear hb)
        | (go_at_call 8; (with_reducible refine (HW.out _ HB1.out).mono ?_); rintro e w2 ⟨rfl, hb⟩; have HB2 := Lib.hid (HB1.out.trans (hb.mono HB1.out.size)); clear hb)
        | (go_at_call 8; (with_reducible refine (HV.out _ HB2.out).mono ?_); rintro e w3 ⟨rfl, hb⟩; have HB3 := Lib.hid (HB2.out.trans (hb.mono HB2.out.size)); clear hb)
        | (go_at_call 10; (with_reducible refine (HGB.out _ HB3.out).mono ?_); rintro e w4 ⟨rfl, hb⟩; have HB4 := Lib.hid (HB3.out.trans (hb.mono HB3.out.size)); clear hb; have kb : (w4.alloc (.cells #[.int .u8 bK, .int .u16 bM, .int .u32 bL, .int .u32 bS, .string bT] 37)).cell? ⟨w4.heap.size, 0, none⟩ = some (.int .u8 bK) := cell_of_row _ _ 0 _ _ _ (heap_alloc_new w4 _); have HC4 := Lib.hid (HB4.out.alloc HB4.out.size (.cells #[.int .u8 bK, .int .u16 bM, .int .u32 bL, .int .u32 bS, .string bT] 37))))
      go_ret
      exact ⟨rfl, HC4.out⟩
  · obtain rfl : x = y := F2.out hy
    have e5 : (x == 0) = false := by rw [eq0]; exact decide_eq_false hy
    have e6 : (x != 0) = true := by rw [bne, e5]; rfl
    clear hy
    go_enter Try.func4, Try.ntmps4
    go_wp2_with (first
      | (go_at_call 7; (with_reducible refine HLV.out.mono ?_); rintro e w1 ⟨rfl, hb⟩; have HB1 := Lib.hid hb; clear hb)
      | (go_at_call 8; (with_reducible refine (HW.out _ HB1.out).mono ?_); rintro e w2 ⟨rfl, hb⟩; have HB2 := Lib.hid (HB1.out.trans (hb.mono HB1.out.size)); clear hb)
      | (go_at_call 8; (with_reducible refine (HV.out _ HB2.out).mono ?_); rintro e w3 ⟨rfl, hb⟩; have HB3 := Lib.hid (HB2.out.trans (hb.mono HB2.out.size)); clear hb))
    go_ret
    exact ⟨by simp, HB3.out⟩
end Go.Proofs.Ytngcogjjcidccaa.Di
/- The walk of DirsWay. -/
namespace Go.Proofs.Ytngcogjjcidccaa.Di
set_option linter.unusedVariables false
set_option linter.unusedSimpArgs false
set_option maxRecDepth 100000
open Go.ChangeShapes Go.WideShapes Go.ChangeAt Go.RowKit
open BigFrame
open Ar Rg
open Ino
open It (Itm)
open Ph (en1 en1_len spX spB)
variable {w w' wr : World} {L : List Itm}
theorem way_facts (L : List Itm) (names : List ByteArray) (m : Nat) (hm : m < names.length) (h : (wlk L false names).2 = 0) : (wlk L true (names.take m)).2 = 0 ∧ gtE L (wlk L true (names.take m)).1 = 0 ∧ (gtI L (wlk L true (names.take m)).1).K = 1 := by
  unfold wlk at h ⊢
  cases hr : rgt L
  · rw [hr] at h; cases h
  · rw [hr] at h
    simp only [if_true] at h ⊢
    have e : names = names.take m ++ names[m] :: names.drop (m + 1) := by rw [← List.drop_eq_getElem_cons hm, List.take_append_drop]
    rw [e] at h
    obtain ⟨h1, h2⟩ := wkL_way (vo (pts L)) _ _ 8 (names.take m) 1 h
    have g := gt_of hr (kind_is (show kind (vo (pts L)) (wkL (vo (pts L)) true 8 1 (names.take m)).1 ≠ 0 by rw [h2]; decide))
    exact ⟨h1, g.1, by rw [g.2]; exact h2⟩
set_option maxHeartbeats 4000000 in
theorem dirsWay_walk {A A' : Option Addr} {n n' c' : Nat} (c : Nat) {names : List ByteArray} (h : ItA w A n L) (hN : NmA w A' n' c' names) (q : Int) :
    Calls Try.prog 6 #[.slice A n c, .slice A' n' c', .int .i64 q] w fun e w' => e = .returned (.bool true) ∧ Below w.heap.size w w' := by
  have HLV := Lib.hid (lives_any w)
  by_cases h0 : q < 0
  · have e1 : decide (q < 0) = true := decide_eq_true h0
    clear h hN h0
    go_enter Try.func6, Try.ntmps6
    go_wp2_with (first
      | (go_at_call 7; (with_reducible refine HLV.out.mono ?_); rintro e w1 ⟨rfl, hb⟩; have HB1 := Lib.hid hb; clear hb))
    go_ret
    exact ⟨rfl, HB1.out⟩
  have e1 : decide (q < 0) = false := decide_eq_false h0
  by_cases h1 : (n' : Int) ≤ q
  · have e2 : decide ((n' : Int) ≤ q) = true := decide_eq_true h1
    clear h hN h0 h1
    go_enter Try.func6, Try.ntmps6
    go_wp2_with (first
      | (go_at_call 7; (with_reducible refine HLV.out.mono ?_); rintro e w1 ⟨rfl, hb⟩; have HB1 := Lib.hid hb; clear hb))
    go_ret
    exact ⟨rfl, HB1.out⟩
  have e2 : decide ((n' : Int) ≤ q) = false := decide_eq_false h1
  obtain ⟨m, rfl⟩ := Int.eq_ofNat_of_zero_le (show 0 ≤ q by omega)
  have hm : m < n' := by omega
  clear h0 h1
  have hm' : m < names.length := by have := hN.1; omega
  have HV := Lib.hid (fun (wx : World) (hb : Below w.heap.size w wx) => Walk_any c false (h.go hb) (hN.go hb))
  have hT : NmA w A' m c' (names.take m) := ⟨by rw [List.length_take]; omega, by have := hN.2.1; omega, hN.2.2.1, by have := hN.2.2.2.1; omega, hN.2.2.2.2.1.take m, fun x hx => hN.2.2.2.2.2 x (List.mem_of_mem_take hx)⟩
  have HW := Lib.hid (fun (wx : World) (hb : Below w.heap.size w wx) => Walk_any c true (h.go hb) (hT.go hb))
  have f := way_facts L names m hm'
  have l1 := wlk_lt L true (names.take m)
  have hmc : m ≤ c' := Nat.le_trans (Nat.le_of_lt hm) hN.2.1
  have hm1 : ((m : Int)).toNat = m := rfl
  have hnm : ¬ n' ≤ m := by omega
  generalize wlk L true (names.take m) = P at *
  generalize wlk L false names = Q at *
  obtain ⟨a, x⟩ := P
  obtain ⟨b, y⟩ := Q
  dsimp only at f l1 HW HV
  by_cases hy : y = 0
  · subst hy
    obtain ⟨rfl, ga, ha⟩ := f rfl
    have HGA := Lib.hid (fun (wx : World) (hb : Below w.heap.size w wx) => Get_any c a l1 (h.go hb))
    obtain ⟨na, hna⟩ : ∃ na, gtI L a = na := ⟨_, rfl⟩
    rw [ga, hna] at HGA
    rw [hna] at ha
    obtain ⟨aK, aM, aL, aS, aT⟩ := na
    unfold vI at HGA
    dsimp only at HGA ha
    subst ha
    have HM := Lib.hid hm
    clear h hN hT f ga hna hm' l1 hm
    go_enter Try.func6, Try.ntmps6
    go_wp2_with (first
      | (go_at_call 7; (with_reducible refine HLV.out.mono ?_); rintro e w1 ⟨rfl, hb⟩; have HB1 := Lib.hid hb; clear hb)
      | (go_at_call 8; (with_reducible refine (HV.out _ HB1.out).mono ?_); rintro e w2 ⟨rfl, hb⟩; have HB2 := Lib.hid (HB1.out.trans (hb.mono HB1.out.size)); clear hb)
      | (go_at_call 8; (with_reducible refine (HW.out _ HB2.out).mono ?_); rintro e w3 ⟨rfl, hb⟩; have HB3 := Lib.hid (HB2.out.trans (hb.mono HB2.out.size)); clear hb)
      | (go_at_call 10; (with_reducible refine (HGA.out _ HB3.out).mono ?_); rintro e w4 ⟨rfl, hb⟩; have HB4 := Lib.hid (HB3.out.trans (hb.mono HB3.out.size)); clear hb; have ka : (w4.alloc (.cells #[.int .u8 1, .int .u16 aM, .int .u32 aL, .int .u32 aS, .string aT] 37)).cell? ⟨w4.heap.size, 0, none⟩ = some (.int .u8 1) := cell_of_row _ _ 0 _ _ _ (heap_alloc_new w4 _); have HC4 := Lib.hid (HB4.out.alloc HB4.out.size (.cells #[.int .u8 1, .int .u16 aM, .int .u32 aL, .int .u32 aS, .string aT] 37))))
    go_ret
    exact ⟨rfl, HC4.out⟩
  · have e5 : (y != 0) = true := by rw [bne, eq0, decide_eq_false hy]; rfl
    clear h hN hT f hm' l1 hy
    go_enter Try.func6, Try.ntmps6
    go_wp2_with (first
      | (go_at_call 7; (with_reducible refine HLV.out.mono ?_); rintro e w1 ⟨rfl, hb⟩; have HB1 := Lib.hid hb; clear hb)
      | (go_at_call 8; (with_reducible refine (HV.out _ HB1.out).mono ?_); rintro e w2 ⟨rfl, hb⟩; have HB2 := Lib.hid (HB1.out.trans (hb.mono HB1.out.size)); clear hb))
    go_ret
    exact ⟨rfl, HB2.out⟩
end Go.Proofs.Ytngcogjjcidccaa.Di
/- The walk of DirsRoot. -/
namespace Go.Proofs.Ytngcogjjcidccaa.Di
set_option linter.unusedVariables false
set_option linter.unusedSimpArgs false
set_option maxRecDepth 100000
open Go.ChangeShapes Go.WideShapes Go.ChangeAt Go.RowKit
open BigFrame
open Ar Rg
open Ino
open It (Itm)
open Ph (en1 en1_len spX spB)
variable {w w' wr : World} {L : List Itm}
theorem rowE {b o : Nat} {e : En} (hr : w.rangeAt b o (encEn e)) : w.cell? ⟨b, o, none⟩ = some (.string e.n) ∧ w.cell? ⟨b, o + 1, none⟩ = some (.int .u32 e.i) ∧ w.cell? ⟨b, o + 2, none⟩ = some (.int .u8 e.k) := ⟨hr 0 _ rfl, hr 1 _ rfl, hr 2 _ rfl⟩
/-- an entry's inode is there, and is not the root -/
theorem ent_gt (h : rgt L = true) (k : Ky) (j : Nat) (he : (vo (pts L)).ent k = some j) : 2 ≤ j := by
  obtain ⟨p, hp, h2, rfl, rfl⟩ := ent_of _ he
  exact (okP_2 (rgt_parts h p hp).2.1 h2).2.2
theorem ls_in (h : rgt L = true) (d : Nat) : ∀ e ∈ lsE (vo (pts L)) d (pts L), (vo (pts L)).ent ⟨2, d, e.n, 0⟩ = some e.i ∧ e.k = kind (vo (pts L)) e.i := by
  intro e he
  unfold lsE at he
  obtain ⟨p, hp, rfl⟩ := List.mem_map.1 he
  obtain ⟨hp, h1⟩ := List.mem_filter.1 hp
  unfold isE at h1
  rw [Bool.and_eq_true, decide_eq_true_iff, decide_eq_true_iff] at h1
  obtain ⟨h1, h2⟩ := h1
  have h3 := ent_is hp h1
  cases h4 : (vo (pts L)).ent p.k with
  | none => rw [h4] at h3; cases h3
  | some j =>
    have hC : p.k.C = 0 := by
      rcases (okK_iff.1 (rgt_parts h p hp).2.2).2 with h5 | h5 | h5
      · have := h5.1; omega
      · exact h5.2.2
      · have := h5.1; omega
    have hk : p.k = ⟨2, d, p.k.N, 0⟩ := by
      rw [← h1, ← h2, ← hC]
    unfold enOf
    dsimp only
    rw [← hk, h4]
    exact ⟨rfl, rfl⟩
theorem ls_ok (h : rgt L = true) (i : Nat) : ∀ e ∈ lsL L i, e.i < 4294967296 ∧ gtE L e.i = 0 ∧ (gtI L e.i).K = e.k ∧ 2 ≤ e.i ∧ ((vo (pts L)).ino e.i).isSome = true := by
  intro e he
  unfold lsL at he
  split at he
  · obtain ⟨h1, h2⟩ := ls_in h i e he
    have h3 := ent_ino h _ _ h1
    have g := gt_of h h3
    exact ⟨ent_lt _ _ h1, g.1, by rw [g.2, h2], ent_gt h _ _ h1, h3⟩
  · cases he
theorem lsL_len {n : Nat} (hn : n = L.length) (hm : n ≤ 1048576) (i : Nat) : (lsL L i).length ≤ 1048576 := by
  unfold lsL
  split
  · unfold lsE
    rw [List.length_map]
    refine Nat.le_trans (List.length_filter_le _ _) ?_
    rw [pts_length]
    omega
  · exact Nat.zero_le _
theorem gtE_no (h : rgt L = true) {j : Nat} (hj : (vo (pts L)).ino j = none) : gtE L j = 5 := by
  unfold gtE
  rw [h, if_pos rfl, hj]
  rfl
set_option maxHeartbeats 4000000 in
theorem dirsRoot_walk {A : Option Addr} {n : Nat} (c i : Nat) (hi : i < 4294967296) (h : ItA w A n L) :
    Calls Try.prog 5 #[.slice A n c, .int .u32 (i : Int)] w fun e w' => e = .returned (.bool true) ∧ Below w.heap.size w w' := by
  have HLV := Lib.hid (lives_any w)
  cases hr : rgt L
  · have HW := Lib.hid (fun (wx : World) (hb : Below w.heap.size w wx) => show Calls Try.prog 8 #[.slice A n c, .slice none 0 0, .bool false] wx (fun e w' => e = .returned (.tuple #[.int .u32 ((0 : Nat) : Int), .int .i64 9]) ∧ Below wx.heap.size wx w') by
      have := Walk_any c false (h.go hb) (nm_nil wx)
      unfold wlk at this
      rw [hr, if_neg (by decide)] at this
      exact this)
    have HC := Lib.hid (fun (wx : World) (hb : Below w.heap.size w wx) => show Calls Try.prog 11 #[.slice A n c] wx (fun e w' => e = .returned (.int .i64 9) ∧ Below wx.heap.size wx w') by
      have := Check_any c (h.go hb)
      unfold ckE at this
      rw [hr, if_neg (by decide)] at this
      exact this)
    clear h hr
    go_enter Try.func5, Try.ntmps5
    go_wp2_with (first
      | (go_at_call 7; (with_reducible refine HLV.out.mono ?_); rintro e w1 ⟨rfl, hb⟩; have HB1 := Lib.hid hb; clear hb)
      | (go_at_call 8; (with_reducible refine (HW.out _ HB1.out).mono ?_); rintro e w2 ⟨rfl, hb⟩; have HB2 := Lib.hid (HB1.out.trans (hb.mono HB1.out.size)); clear hb)
      | (go_at_call 11; (with_reducible refine (HC.out _ HB2.out).mono ?_); rintro e w3 ⟨rfl, hb⟩; have HB3 := Lib.hid (HB2.out.trans (hb.mono HB2.out.size)); clear hb))
    go_ret
    exact ⟨rfl, HB3.out⟩
  · have HW := Lib.hid (fun (wx : World) (hb : Below w.heap.size w wx) => show Calls Try.prog 8 #[.slice A n c, .slice none 0 0, .bool false] wx (fun e w' => e = .returned (.tuple #[.int .u32 ((1 : Nat) : Int), .int .i64 0]) ∧ Below wx.heap.size wx w') by
      have := Walk_any c false (h.go hb) (nm_nil wx)
      unfold wlk at this
      rw [hr, if_pos rfl, wkL_nil] at this
      exact this)
    have HX := Lib.hid (fun (wx : World) (hb : Below w.heap.size w wx) => show Calls Try.prog 12 #[.slice A n c] wx (fun e w' => ∃ j : Nat, e = .returned (.tuple #[.int .u32 (j : Int), .int .i64 0]) ∧ Nx (vo (pts L)) j ∧ Below wx.heap.size wx w') by
      have := Next_any c (h.go hb)
      unfold ckE at this
      rw [hr] at this
      simp only [if_true] at this
      exact this)
    have HG := Lib.hid (fun (wx : World) (hb : Below w.heap.size w wx) (i : Nat) (hi : i < 4294967296) => Get_any c i hi (h.go hb))
    have HLS := Lib.hid (fun (wx : World) (hb : Below w.heap.size w wx) => List_any c i hi (h.go hb))
    have HF := Lib.hid (ls_ok hr i)
    have HNO := Lib.hid (fun (j : Nat) => @gtE_no L hr j)
    have HX0 := Lib.hid (show lsX L i = if gtE L i ≠ 0 then gtE L i else if (gtI L i).K ≠ 1 then 12 else 0 from rfl)
    have HGE := Lib.hid (show gtE L i = 0 ∨ gtE L i = 5 by unfold gtE; rw [hr, if_pos rfl]; split; exact .inl rfl; exact .inr rfl)
    have HR := Lib.hid hr
    have hDl := lsL_len h.1 h.2.1 i
    have HI := Lib.hid hi
    generalize lsL L i = D at *
    generalize lsX L i = X at *
    clear h hr hi
    go_enter Try.func5, Try.ntmps5
    go_wp2_with (first
      | (go_at_call 7; (with_reducible refine HLV.out.mono ?_); rintro e w1 ⟨rfl, hb⟩; have HB1 := Lib.hid hb; clear hb)
      | (go_at_call 8; (with_reducible refine (HW.out _ HB1.out).mono ?_); rintro e w2 ⟨rfl, hb⟩; have HB2 := Lib.hid (HB1.out.trans (hb.mono HB1.out.size)); clear hb)
      | (go_at_call 12; (with_reducible refine (HX.out _ HB2.out).mono ?_); rintro e w3 ⟨j, rfl, hj, hb⟩; have HB3 := Lib.hid (HB2.out.trans (hb.mono HB2.out.size)); clear hb)
      | (have GJ := HG.out _ HB3.out j hj.2.1
         rw [HNO.out j hj.2.2.1] at GJ
         obtain ⟨nj, hnj⟩ : ∃ nj, gtI L j = nj := ⟨_, rfl⟩
         rw [hnj] at GJ
         obtain ⟨jK, jM, jL, jS, jT⟩ := nj
         unfold vI at GJ
         dsimp only at GJ
         have HGJ := Lib.hid GJ
         have HJ := Lib.hid hj
         clear GJ hnj hj
         (go_at_call 10; (with_reducible refine HGJ.out.mono ?_); rintro e w4 ⟨rfl, hb⟩; have HB4 := Lib.hid (HB3.out.trans (hb.mono HB3.out.size)); clear hb; have HC4 := Lib.hid (HB4.out.alloc HB4.out.size (.cells #[.int .u8 jK, .int .u16 jM, .int .u32 jL, .int .u32 jS, .string jT] 37))))
      | (go_at_call 9; (with_reducible refine (HLS.out _ HC4.out).mono ?_); rintro e w5 ⟨v, rfl, hm⟩; have HB5 := Lib.hid (HC4.out.trans (hm.2.mono HC4.out.size)); obtain ⟨A5, c5, rfl, hc5, hc6, hL5⟩ := hm.ls encEn_len; have HL5 := Lib.hid hL5; have HCM := Lib.hid (And.intro hc5 hc6); clear hm hL5 hc5 hc6))
    go_loopw [54] (fun v wr => ∃ k : Nat, k ≤ D.length ∧ v = .int .i64 k ∧ Hid (Below w5.heap.size w5 wr)) (fun v _ => D.length - (intOf v).toNat)
    case atStart => exact ⟨0, Nat.zero_le _, by go_num, Below.refl _ _⟩
    case round =>
      obtain ⟨k, hk, rfl, hb⟩ := hrel
      have HB := Lib.hid (Hid.out hb)
      have HBw := Lib.hid (HB5.out.trans (HB.out.mono HB5.out.size))
      clear hb
      by_cases hlt : k < D.length
      · obtain ⟨en, hen⟩ : ∃ en, D[k]? = some en := ⟨_, List.getElem?_eq_getElem hlt⟩
        obtain ⟨b, o, hAe, hbs, hrr⟩ := (HL5.out.below HB.out) k en hen
        obtain ⟨r0, r1, r2⟩ := rowE hrr
        obtain ⟨f1, f2, f3, f4, f5⟩ := HF.out en (List.mem_of_getElem? hen)
        clear hrr hen hbs
        subst hAe
        obtain ⟨Nm, ei, ek⟩ := en
        dsimp only at r0 r1 r2 f1 f2 f3 f4 f5
        have e1 : ((ei : Int) == 1) = false := eqz1 (decide_eq_false (by omega))
        have e2 : ((ei : Int) == (j : Int)) = false := eqz (decide_eq_false (fun e => by rw [e, HJ.out.2.2.1] at f5; cases f5))
        obtain ⟨nx, hnx⟩ : ∃ nx, gtI L ei = nx := ⟨_, rfl⟩
        rw [hnx] at f3
        obtain ⟨xK, xM, xL, xS, xT⟩ := nx
        dsimp only at f3
        subst f3
        have hal : Below w.heap.size w (wr.alloc (.cells #[.string Nm, .int .u32 (ei : Int), .int .u8 (xK : Int)] 34)) := HBw.out.alloc HBw.out.size _
        have GJ := HG.out _ hal ei f1
        rw [f2, hnx] at GJ
        unfold vI at GJ
        dsimp only at GJ
        have HGX := Lib.hid GJ
        have HAL := Lib.hid hal
        have HQ := Lib.hid (heap_alloc_new wr (.cells #[.string Nm, .int .u32 (ei : Int), .int .u8 (xK : Int)] 34))
        have HZ := Lib.hid (show wr.heap.size < (wr.alloc (.cells #[.string Nm, .int .u32 (ei : Int), .int .u8 (xK : Int)] 34)).heap.size by simp)
        have HAS := Lib.hid (HB.out.alloc HB.out.size (.cells #[.string Nm, .int .u32 (ei : Int), .int .u8 (xK : Int)] 34))
        have hp1 : (wr.alloc (.cells #[.string Nm, .int .u32 (ei : Int), .int .u8 (xK : Int)] 34)).cell? ⟨wr.heap.size, 1, none⟩ = some (.int .u32 (ei : Int)) := cell_of_row _ _ 1 _ _ _ (heap_alloc_new wr (.cells #[.string Nm, .int .u32 (ei : Int), .int .u8 (xK : Int)] 34))
        clear GJ hnx f1 f2 f4 f5 hal
        go_wp2_with (go_at_call 10; (with_reducible refine HGX.out.mono ?_); rintro e w6 ⟨rfl, hb⟩; have HB6 := Lib.hid (HAL.out.trans (hb.mono HAL.out.size)); have hx := (hb.alloc hb.size (.cells #[.int .u8 (xK : Int), .int .u16 xM, .int .u32 xL, .int .u32 xS, .string xT] 37)); have HS6 := Lib.hid (HAS.out.trans (hx.mono HAS.out.size)); have x0 : (w6.alloc (.cells #[.int .u8 (xK : Int), .int .u16 xM, .int .u32 xL, .int .u32 xS, .string xT] 37)).cell? ⟨w6.heap.size, 0, none⟩ = some (.int .u8 (xK : Int)) := cell_of_row _ _ 0 _ _ _ (heap_alloc_new w6 _); have q0 := (hx.block wr.heap.size HZ.out).trans HQ.out; have q1 : (w6.alloc (.cells #[.int .u8 (xK : Int), .int .u16 xM, .int .u32 xL, .int .u32 xS, .string xT] 37)).cell? ⟨wr.heap.size, 1, none⟩ = some (.int .u32 (ei : Int)) := cell_of_row _ _ 1 _ _ _ q0; have q2 : (w6.alloc (.cells #[.int .u8 (xK : Int), .int .u16 xM, .int .u32 xL, .int .u32 xS, .string xT] 37)).cell? ⟨wr.heap.size, 2, none⟩ = some (.int .u8 (xK : Int)) := cell_of_row _ _ 2 _ _ _ q0; clear hb hx q0)
        exact ⟨⟨k + 1, by omega, by go_num, HS6.out⟩, by simp [intOf] <;> omega⟩
      · have GJ := HG.out _ HBw.out i HI.out
        have hX := HX0.out
        have h2 := HJ.out.1
        have e3 : decide ((1 : Int) < (j : Int)) = true := decide_eq_true (by omega)
        obtain ⟨nx, hnx⟩ : ∃ nx, gtI L i = nx := ⟨_, rfl⟩
        rw [hnx] at GJ hX
        obtain ⟨xK, xM, xL, xS, xT⟩ := nx
        unfold vI at GJ
        dsimp only at GJ hX
        rcases HGE.out with h5 | h5
        · rw [h5] at GJ hX
          rw [if_neg (by decide)] at hX
          have HGX := Lib.hid GJ
          by_cases hK : xK = 1
          · rw [if_neg (fun h => h hK)] at hX
            subst hX hK
            clear GJ hnx h5 h2
            go_wp2_with (go_at_call 10; (with_reducible refine HGX.out.mono ?_); rintro e w6 ⟨rfl, hb⟩; have HB6 := Lib.hid (HBw.out.trans (hb.mono HBw.out.size)); have hx := Lib.hid (HB6.out.alloc HB6.out.size (.cells #[.int .u8 1, .int .u16 xM, .int .u32 xL, .int .u32 xS, .string xT] 37)); have x0 : (w6.alloc (.cells #[.int .u8 1, .int .u16 xM, .int .u32 xL, .int .u32 xS, .string xT] 37)).cell? ⟨w6.heap.size, 0, none⟩ = some (.int .u8 1) := cell_of_row _ _ 0 _ _ _ (heap_alloc_new w6 _); clear hb)
            go_ret
            exact ⟨rfl, hx.out⟩
          · rw [if_pos hK] at hX
            subst hX
            have e4 : ((xK : Int) == 1) = false := eqz1 (decide_eq_false hK)
            clear GJ hnx h5 h2 hK
            go_wp2_with (go_at_call 10; (with_reducible refine HGX.out.mono ?_); rintro e w6 ⟨rfl, hb⟩; have HB6 := Lib.hid (HBw.out.trans (hb.mono HBw.out.size)); have hx := Lib.hid (HB6.out.alloc HB6.out.size (.cells #[.int .u8 (xK : Int), .int .u16 xM, .int .u32 xL, .int .u32 xS, .string xT] 37)); have x0 : (w6.alloc (.cells #[.int .u8 (xK : Int), .int .u16 xM, .int .u32 xL, .int .u32 xS, .string xT] 37)).cell? ⟨w6.heap.size, 0, none⟩ = some (.int .u8 (xK : Int)) := cell_of_row _ _ 0 _ _ _ (heap_alloc_new w6 _); clear hb)
            go_ret
            exact ⟨rfl, hx.out⟩
        · rw [h5] at GJ hX
          rw [if_pos (by decide)] at hX
          subst hX
          have HGX := Lib.hid GJ
          clear GJ hnx h5 h2
          go_wp2_with (go_at_call 10; (with_reducible refine HGX.out.mono ?_); rintro e w6 ⟨rfl, hb⟩; have HB6 := Lib.hid (HBw.out.trans (hb.mono HBw.out.size)); have hx := Lib.hid (HB6.out.alloc HB6.out.size (.cells #[.int .u8 (xK : Int), .int .u16 xM, .int .u32 xL, .int .u32 xS, .string xT] 37)); have x0 : (w6.alloc (.cells #[.int .u8 (xK : Int), .int .u16 xM, .int .u32 xL, .int .u32 xS, .string xT] 37)).cell? ⟨w6.heap.size, 0, none⟩ = some (.int .u8 (xK : Int)) := cell_of_row _ _ 0 _ _ _ (heap_alloc_new w6 _); clear hb)
          go_ret
          exact ⟨rfl, hx.out⟩
end Go.Proofs.Ytngcogjjcidccaa.Di
