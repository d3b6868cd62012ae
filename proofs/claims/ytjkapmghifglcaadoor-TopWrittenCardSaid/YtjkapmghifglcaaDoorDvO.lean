/- Contract of package dev's read. -/
import Derived.Test.YtjkapmghifglcaaDoorDvN
namespace Go.Proofs.YtjkapmghifglcaaDoor.Dv
set_option linter.unusedVariables false
open Go.RowKit Go.Shelf
open Ar Rg St
attribute [local go_sem] Oper.semAt_some
/-- the newest of the writes that wait of a number, from the last on -/
def rdW (W : List Bk) (num : Nat) : Option ByteArray := (W.reverse.find? fun b => decide (b.n = num)).map (·.d)
theorem fl_rev (W : List Bk) (k : Nat) (hk : k ≤ W.length) : (fl W k).map (·.2) = W.reverse.take k := by
  induction k with
  | zero => rfl
  | succ k ih =>
    obtain ⟨x, hx⟩ : ∃ x, W[W.length - 1 - k]? = some x := ⟨_, List.getElem?_eq_getElem (by omega)⟩
    have e : W.reverse[k]? = some x := by rw [List.getElem?_reverse (by omega)]; exact hx
    rw [fl_succ, List.map_append, ih (by omega), List.take_add_one, e, hx]
    rfl
theorem rd_of {W : List Bk} {m k num : Nat} {q : List (Nat × Bk)} {x : Nat × Bk} (hm : m = W.length) (hk : k ≤ m) (h2 : fl W k = q ++ [x]) (h3 : x.2.n = num) (h4 : ∀ y ∈ q, y.2.n ≠ num) : rdW W num = some x.2.d := by
  have e := fl_rev W k (by omega)
  rw [h2, List.map_append] at e
  unfold rdW
  rw [← List.take_append_drop k W.reverse, ← e, List.find?_append, List.find?_append]
  have e1 : (q.map (·.2)).find? (fun b => decide (b.n = num)) = none := by
    rw [List.find?_eq_none]
    intro b hb
    obtain ⟨y, hy, rfl⟩ := List.mem_map.1 hb
    simpa using h4 y hy
  rw [e1]
  simp [h3]
theorem rd_none {W : List Bk} {m num : Nat} (hm : m = W.length) (h : ∀ x ∈ fl W m, x.2.n ≠ num) : rdW W num = none := by
  have e := fl_rev W m (by omega)
  rw [hm, List.take_of_length_le (by simp)] at e
  unfold rdW
  rw [← e]
  have e1 : ((fl W W.length).map (·.2)).find? (fun b => decide (b.n = num)) = none := by
    rw [List.find?_eq_none]
    intro b hb
    obtain ⟨y, hy, rfl⟩ := List.mem_map.1 hb
    simpa using h y (hm ▸ hy)
  rw [e1]
  rfl
theorem find_of {D : List Bk} {k p : Nat} (hup : UpK key D) (h : At D k p) : (D.find? fun b => decide (b.n = k)) = if found D k p then D[p]? else none := by
  obtain ⟨hp, h1, h2⟩ := h
  have e1 : (D.take p).find? (fun b => decide (b.n = k)) = none := by
    rw [List.find?_eq_none]
    intro b hb
    have := h1 b hb
    simp only [lt, Sb.nl, decide_eq_true_eq] at this
    have e : key b = b.n := rfl
    rw [e] at this
    simp only [decide_eq_true_eq]
    omega
  cases hy : D[p]? with
  | none =>
    have hf : found D k p = false := by unfold found; rw [hy]
    have hl := List.getElem?_eq_none_iff.1 hy
    rw [List.take_of_length_le (by omega)] at e1
    rw [hf, e1]
    rfl
  | some y =>
    have hf : found D k p = decide (key y = k) := found_at hy
    have ed : D.find? (fun b => decide (b.n = k)) = (D.take p ++ y :: D.drop (p + 1)).find? (fun b => decide (b.n = k)) := by
      rw [← drop_at hy, List.take_append_drop]
    rw [ed, List.find?_append, e1, hf]
    by_cases hk : key y = k
    · rw [decide_eq_true hk]
      have : y.n = k := hk
      simp [this]
    · rw [decide_eq_false hk]
      have hn : ¬ y.n = k := hk
      simp only [List.find?_cons, decide_eq_false hn, Option.none_or, Bool.false_eq_true, if_false]
      rw [List.find?_eq_none]
      intro b hb
      have hyk := h2 y (by rw [drop_at hy]; simp)
      have hu := hup
      rw [← List.take_append_drop p D, drop_at hy] at hu
      have hyb := (UpK.cons.1 (UpK.append.1 hu).2.1).1 b hb
      simp only [lt, Sb.nl, decide_eq_true_eq, decide_eq_false_iff_not] at hyk hyb
      have ey : key y = y.n := rfl
      have eb : key b = b.n := rfl
      rw [ey] at hyk hyb
      rw [eb] at hyb
      simp only [decide_eq_true_eq]
      omega
theorem cell_one1 (w : World) (v : Value) (t : TypeId) : (w.alloc (.cells #[v] t)).cell? ⟨w.heap.size, 0, none⟩ = some v ∧ (w.alloc (.cells #[v] t)).frozen? ⟨w.heap.size, 0, none⟩ = false := by
  constructor <;> simp
set_option maxRecDepth 100000 in
set_option maxHeartbeats 2000000 in
theorem read_any (N num : Nat) (D W : List Bk) (A A' : Option Addr) (n c m c' : Nat) (dn : Bool) (fu : Int) (hn : n ≤ 1099511627776) (hm : m ≤ 1099511627776) (w : World) (hD : SlB w A n c D) (hW : SlB w A' m c' W) (hup : UpK key D) (s : ByteArray) (hs : s = (rdW W num).getD ((D.find? fun b => decide (b.n = num)).elim ByteArray.empty (·.d))) :
    Calls Tryd.prog 39 #[devV N (.slice A n c) (.slice A' m c') dn fu, .int .u32 num] w fun e w' => e = .returned (.string s) ∧ Below w.heap.size w w' := by
  unfold devV
  refine (callsIn_wide (n := 4)).1 ?_
  refine callsIn_of_wp_marks Tryd.func39 rfl trivial ?_ rfl
  simp only [Tryd.ntmps39, List.size_toArray, List.length_cons, List.length_nil, Nat.reduceAdd, Nat.reduceSub, Array.replicate_succ, Array.replicate_zero, List.push_toArray, List.append_toArray, List.nil_append, List.cons_append]
  gi_wp2_with (refine ⟨trivial, ?_⟩; gi_at_call 54; refine (callsIn_wide.2 (fromLast_any N A A' n c m c' dn fu _)).mono ?_; rintro e w' ⟨rfl, rfl⟩)
  obtain ⟨W1, hW1⟩ : ∃ W1, (((w.alloc (.cells #[.int .u32 N, .slice A n c, .slice A' m c', .bool dn, .int .i64 fu] 57)).alloc (.cells #[.int .u32 num] 22)).alloc (.cells #[.string ⟨#[]⟩] 9)).alloc (.cells #[.int .u32 N, .slice A n c, .slice A' m c', .bool dn, .int .i64 fu] 57) = W1 := ⟨_, rfl⟩
  have sz : W1.heap.size = w.heap.size + 4 := by rw [← hW1]; simp
  have hB1 : Below w.heap.size w W1 := by rw [← hW1]; exact ((((Below.refl _ _).alloc (Nat.le_refl _) _).alloc (by simp) _).alloc (by simp <;> omega) _).alloc (by simp <;> omega) _
  have bx : Box W1 w.heap.size N (.slice A n c) (.slice A' m c') dn fu := by
    rw [← hW1]
    exact (((Box.new w N (.slice A n c) (.slice A' m c') dn fu 57).below (B := w.heap.size + 1) ((Below.refl _ _).alloc (by simp) _) (by omega)).below (B := w.heap.size + 1) ((Below.refl _ _).alloc (by simp) _) (by omega)).below (B := w.heap.size + 1) ((Below.refl _ _).alloc (by simp <;> omega) _) (by omega)
  have z0 : (w.alloc (.cells #[.int .u32 N, .slice A n c, .slice A' m c', .bool dn, .int .i64 fu] 57)).heap.size = w.heap.size + 1 := by simp
  have z1 : ((w.alloc (.cells #[.int .u32 N, .slice A n c, .slice A' m c', .bool dn, .int .i64 fu] 57)).alloc (.cells #[.int .u32 num] 22)).heap.size = w.heap.size + 2 := by simp
  have z2 : (((w.alloc (.cells #[.int .u32 N, .slice A n c, .slice A' m c', .bool dn, .int .i64 fu] 57)).alloc (.cells #[.int .u32 num] 22)).alloc (.cells #[.string ⟨#[]⟩] 9)).heap.size = w.heap.size + 3 := by simp
  have e1 := cell_one1 (w.alloc (.cells #[.int .u32 N, .slice A n c, .slice A' m c', .bool dn, .int .i64 fu] 57)) (.int .u32 num) 22
  have e2 := cell_one1 ((w.alloc (.cells #[.int .u32 N, .slice A n c, .slice A' m c', .bool dn, .int .i64 fu] 57)).alloc (.cells #[.int .u32 num] 22)) (.string ⟨#[]⟩) 9
  rw [z0] at e1
  rw [z1] at e2
  have k1 : Below (w.heap.size + 2) ((w.alloc (.cells #[.int .u32 N, .slice A n c, .slice A' m c', .bool dn, .int .i64 fu] 57)).alloc (.cells #[.int .u32 num] 22)) W1 := by
    rw [← hW1]
    exact ((Below.refl _ _).alloc (by rw [z1]; omega) _).alloc (by rw [z2]; omega) _
  have k2 : Below (w.heap.size + 3) (((w.alloc (.cells #[.int .u32 N, .slice A n c, .slice A' m c', .bool dn, .int .i64 fu] 57)).alloc (.cells #[.int .u32 num] 22)).alloc (.cells #[.string ⟨#[]⟩] 9)) W1 := by
    rw [← hW1]
    exact (Below.refl _ _).alloc (by rw [z2]; omega) _
  have b1 : W1.cell? ⟨w.heap.size + 1, 0, none⟩ = some (.int .u32 num) := (k1.cell (p := ⟨w.heap.size + 1, 0, none⟩) (Nat.lt_succ_self _)).trans e1.1
  have b2 : W1.cell? ⟨w.heap.size + 2, 0, none⟩ = some (.string ⟨#[]⟩) := (k2.cell (p := ⟨w.heap.size + 2, 0, none⟩) (Nat.lt_succ_self _)).trans e2.1
  have f2 : W1.frozen? ⟨w.heap.size + 2, 0, none⟩ = false := (k2.frozen (p := ⟨w.heap.size + 2, 0, none⟩) (Nat.lt_succ_self _)).trans e2.2
  have b3 : W1.cell? ⟨w.heap.size + 3, 2, none⟩ = some (.slice A' m c') := by
    have := (Box.new (((w.alloc (.cells #[.int .u32 N, .slice A n c, .slice A' m c', .bool dn, .int .i64 fu] 57)).alloc (.cells #[.int .u32 num] 22)).alloc (.cells #[.string ⟨#[]⟩] 9)) N (.slice A n c) (.slice A' m c') dn fu 57).c2
    rw [z2, hW1] at this
    exact this
  clear e1 e2 k1 k2 z0 z1 z2
  rw [hW1]
  clear hW1
  obtain ⟨hmW, -, -, B', hB', hL'⟩ := hW
  have hLs : Ls enc 2 W1 (w.heap.size + 4) A' W := (hL'.below (hB1.mono hB')).more (by omega)
  have HMW := Lib.hid hmW
  have HLS := Lib.hid hLs
  have HD := Lib.hid hD
  have HS := Lib.hid hs
  clear hmW hLs hL' hD hs
  refine wpIn_rangeFunc_ownH rfl (by omega) (gf := 72) (lb := #[.pointer (some ⟨w.heap.size + 3, 0, none⟩)]) rfl trivial (enters_of Tryd.func72 (by kernel_rfl) rfl)
    (last_stops _ _ trivial rfl (by omega) (w.heap.size + 3) (w.heap.size + 4) A' m c' W HMW.out hm W1 (by omega) (by rw [sz]; omega) b3 HLS.out) belowK_t (belowK_b (by rw [sz]; omega)) (Below.refl _ _) (fun _ => rfl)
    (fun pre W' => Below (w.heap.size + 4) W1 W' ∧ ∀ x ∈ pre, x.2.n ≠ num)
    (fun cd pre W' => (cd = .ret ∧ ∃ q x, pre = q ++ [x] ∧ x.2.n = num ∧ (∀ y ∈ q, y.2.n ≠ num) ∧ W'.cell? ⟨w.heap.size + 2, 0, none⟩ = some (.string x.2.d)) ∧ Below w.heap.size w W')
    (OwnFrom.and (ownFrom_below (by rw [sz]; omega) (by rw [sz]; omega)) (ownFrom_pure _ _))
    (fun cd => OwnFrom.and (fun s X Y row hs hg hr => ?hix) (ownFrom_below (Nat.le_refl _) (by rw [sz]; omega)))
    ⟨Below.refl _ _, by simp⟩
    (fun x a' W' => ∃ Bx, w.heap.size + 4 ≤ Bx ∧ Bx < W'.heap.size ∧ W'.cell? ⟨Bx, 0, none⟩ = some (.int .u32 x.2.n) ∧ W'.cell? ⟨Bx, 1, none⟩ = some (.string x.2.d) ∧ a' = { tmps := #[.agg #[.int .u32 N, .slice A n c, .slice A' m c', .bool dn, .int .i64 fu], .int .u32 num, .pointer (some ⟨w.heap.size, 0, none⟩), .pointer (some ⟨w.heap.size + 1, 0, none⟩), .pointer (some ⟨w.heap.size + 2, 0, none⟩), undef, .pointer (some ⟨Bx, 0, none⟩), undef, undef, .agg #[.int .u32 N, .slice A n c, .slice A' m c', .bool dn, .int .i64 fu], .func (.func 72) #[] #[.pointer (some ⟨w.heap.size + 3, 0, none⟩)], .int .i64 x.1, .agg #[.int .u32 x.2.n, .string x.2.d], undef, undef, undef, undef, undef, undef, undef, undef, undef, undef, undef, undef, undef, undef, undef, undef, undef, undef, undef, undef, undef, undef, undef, undef], defers := [] })
    (fun x a' s X Y row hs hg hr => ?hax) ?assign ?body ?done ?stop
  case hix =>
    obtain ⟨h1, q, x, h2, h3, h4, h5⟩ := hs
    exact ⟨h1, q, x, h2, h3, h4, cell_kept h5 hg (fun r e => (hr r e).2)⟩
  case hax =>
    obtain ⟨Bx, h1, h2, h3, h4, h5⟩ := hs
    exact ⟨Bx, h1, Nat.lt_of_lt_of_le h2 hg.size, cell_kept h3 hg (fun r e => (hr r e).2), cell_kept h4 hg (fun r e => (hr r e).2), h5⟩
  case assign =>
    rintro l pre x W' K ⟨hI1, hI2⟩ hK
    simp only [encP, Sb.enc]
    gi_wp2
    refine hK _ _ ((KeepsOthers.alloc _ _).from _) ((Below.refl _ W').alloc (by have := hI1.size; rw [sz] at this; omega) _) ⟨hI1.alloc (by have := hI1.size; rw [sz] at this; omega) _, hI2⟩ ⟨W'.heap.size, by have := hI1.size; rw [sz] at this; omega, by simp, by simp, by simp, rfl⟩
  case body =>
    rintro l pre x a' W' hl ⟨r, hr⟩ ⟨hI1, hI2⟩ ⟨Bx, h1, h2, h3, h4, rfl⟩ hlt
    have c1 := (hI1.cell (p := ⟨w.heap.size + 1, 0, none⟩) (by show w.heap.size + 1 < _; omega)).trans b1
    have c2 := (hI1.cell (p := ⟨w.heap.size + 2, 0, none⟩) (by show w.heap.size + 2 < _; omega)).trans b2
    have g2 := (hI1.frozen (p := ⟨w.heap.size + 2, 0, none⟩) (by show w.heap.size + 2 < _; omega)).trans f2
    by_cases hx : x.2.n = num
    · subst hx
      gi_wp2
      exact ⟨(KeepsOthers.setCell _ _ _).from _, ⟨rfl, pre, x, rfl, rfl, hI2, World.cell?_setCell_same' _ _ _ (by rw [c2]; rfl)⟩, (hB1.trans (hI1.mono (by omega))).setCell (p := ⟨w.heap.size + 2, 0, none⟩) (by show w.heap.size ≤ w.heap.size + 2; omega) _⟩
    · have q0 : ((x.2.n : Int) == (num : Int)) = false := by rw [beq_eq_false_iff_ne]; omega
      gi_wp2
      exact ⟨KeepsFrom.refl _ _, Below.refl _ _, hI1, fun y hy => by
        rcases List.mem_append.1 hy with hy | hy
        · exact hI2 y hy
        · simp at hy
          subst hy
          exact hx⟩
  case done =>
    rintro DD xs W2 hD0 rfl ⟨hI1, hI2⟩ hK
    have HRN := Lib.hid (rd_none HMW.out hI2)
    have bx2 := bx.below hI1 (by omega)
    have d1 := bx2.c1
    have c1 := (hI1.cell (p := ⟨w.heap.size + 1, 0, none⟩) (by show w.heap.size + 1 < _; omega)).trans b1
    have hs2 := hI1.size
    obtain ⟨hnD, hnc, hcm, B, hB, hL⟩ := HD.out
    have hBW : Below w.heap.size w W2 := hB1.trans (hI1.mono (by omega))
    have HL := Lib.hid (hL.below (hBW.mono hB))
    have HND := Lib.hid hnD
    have hBs : B ≤ W2.heap.size := Nat.le_trans hB hBW.size
    clear hnD hL
    have c2 := (hI1.cell (p := ⟨w.heap.size + 2, 0, none⟩) (by show w.heap.size + 2 < _; omega)).trans b2
    have g2 := (hI1.frozen (p := ⟨w.heap.size + 2, 0, none⟩) (by show w.heap.size + 2 < _; omega)).trans f2
    gi_wp2_with fail
    refine ⟨trivial, ?_⟩
    gi_at_call 55
    refine (callsIn_wide.2 (search_any D ⟨num, ⟨#[]⟩⟩ A n c B HND.out (by omega) (srt_up hup) _ hBs HL.out)).mono ?_
    rintro e w3 ⟨p, hp, rfl, hb3⟩
    have y2 : w3.cell? ⟨w.heap.size + 1 + 1, 0, none⟩ = some (.string ⟨#[]⟩) := (hb3.cell (p := ⟨w.heap.size + 2, 0, none⟩) (by show w.heap.size + 2 < _; omega)).trans c2
    have y3 : w3.frozen? ⟨w.heap.size + 1 + 1, 0, none⟩ = false := (hb3.frozen (p := ⟨w.heap.size + 2, 0, none⟩) (by show w.heap.size + 2 < _; omega)).trans g2
    have y1 : w3.cell? ⟨w.heap.size, 1, none⟩ = some (.slice A n c) := (hb3.cell (p := ⟨w.heap.size, 1, none⟩) (by show w.heap.size < _; omega)).trans d1
    have HK3 := Lib.hid ((hb3.block DD (Array.getElem?_eq_some_iff.1 hK).1).trans hK)
    have HB3 := Lib.hid (hBW.trans (hb3.mono hBW.size))
    have HL3 := Lib.hid (HL.out.below (hb3.mono hBs))
    have HF := Lib.hid (find_of hup hp)
    clear hb3 hK c2 g2 d1 c1
    by_cases hf : found D num p = true
    · obtain ⟨y, hy⟩ : ∃ y, D[p]? = some y := ⟨_, List.getElem?_eq_getElem (found_lt hf)⟩
      obtain ⟨b, o, rfl, hb2, hr⟩ := HL3.out p y hy
      have hc1 : w3.cell? ⟨b, o + p * 2 + 1, none⟩ = some (.string y.d) := hr 1 _ rfl
      have q1 : (p : Int) < (n : Int) := by have := (List.getElem?_eq_some_iff.1 hy).1; have := HND.out; omega
      have q2 : (0 : Int) ≤ (p : Int) := by omega
      have HE := Lib.hid (show (D.find? fun b => decide (b.n = num)) = some y by rw [HF.out, if_pos hf, hy])
      change found D num p = true at hf
      rw [show found D (⟨num, ⟨#[]⟩⟩ : Bk).n p = true from hf]
      clear hr hy
      gi_wp2
      have hK4 : (w3.setCell ⟨w.heap.size + 1 + 1, 0, none⟩ (.string y.d)).heap[DD]? = some (.deferred (some [])) := (KeepsOthers.setCell _ _ _).same DD _ HK3.out rfl
      have hc5 := cell_kept (World.cell?_setCell_same' w3 ⟨w.heap.size + 1 + 1, 0, none⟩ (.string y.d) (by rw [y2]; rfl)) (grownBy_putObj' _ DD (.deferred none)) (fun r e => by cases e; exact ⟨_, hK4, rfl⟩)
      refine ⟨by simp, .inl ⟨_, _, rfl, run_takeDeferred hK4, ?_⟩⟩
      refine ⟨.string y.d, ?_, by rw [HS.out, HRN.out, HE.out]; rfl, (HB3.out.setCell (p := ⟨w.heap.size + 1 + 1, 0, none⟩) (by show w.heap.size ≤ w.heap.size + 1 + 1; omega) _).trans (belowK_b (w := W1) (by rw [sz]; omega) _ DD _ _ hD0 hK4 rfl rfl)⟩
      simp [results, Tryd.f39, go_sem, hc5]
    · have hf' : found D num p = false := by simpa using hf
      have HE := Lib.hid (show (D.find? fun b => decide (b.n = num)) = none by rw [HF.out, if_neg hf])
      rw [show found D (⟨num, ⟨#[]⟩⟩ : Bk).n p = false from hf']
      gi_wp2
      have hK4 : (w3.setCell ⟨w.heap.size + 1 + 1, 0, none⟩ (.string ⟨#[]⟩)).heap[DD]? = some (.deferred (some [])) := (KeepsOthers.setCell _ _ _).same DD _ HK3.out rfl
      have hc5 := cell_kept (World.cell?_setCell_same' w3 ⟨w.heap.size + 1 + 1, 0, none⟩ (.string ⟨#[]⟩) (by rw [y2]; rfl)) (grownBy_putObj' _ DD (.deferred none)) (fun r e => by cases e; exact ⟨_, hK4, rfl⟩)
      refine ⟨by simp, .inl ⟨_, _, rfl, run_takeDeferred hK4, ?_⟩⟩
      refine ⟨.string ⟨#[]⟩, ?_, by rw [HS.out, HRN.out, HE.out]; rfl, (HB3.out.setCell (p := ⟨w.heap.size + 1 + 1, 0, none⟩) (by show w.heap.size ≤ w.heap.size + 1 + 1; omega) _).trans (belowK_b (w := W1) (by rw [sz]; omega) _ DD _ _ hD0 hK4 rfl rfl)⟩
      simp [results, Tryd.f39, go_sem, hc5]
  case stop =>
    rintro DD cd pre W hD ⟨k, hk, rfl⟩ ⟨⟨rfl, q, x, h2, h3, h4, h5⟩, h6⟩ hK
    gi_wp2
    refine ⟨by simp, .inl ⟨_, _, rfl, run_takeDeferred hK, ?_⟩⟩
    have hc5 := cell_kept h5 (grownBy_putObj' _ DD (.deferred none)) (fun r e => by cases e; exact ⟨_, hK, rfl⟩)
    have HR := Lib.hid (rd_of HMW.out hk h2 h3 h4)
    refine ⟨.string x.2.d, ?_, by rw [HS.out, HR.out]; rfl, h6.trans (belowK_b (w := W1) (by rw [sz]; omega) _ DD _ _ hD hK rfl rfl)⟩
    simp [results, Tryd.f39, go_sem, hc5]
end Go.Proofs.YtjkapmghifglcaaDoor.Dv
