/- Contract of package dev's newest. -/
import Derived.Test.YtjkapmghifglcaaDoorDvP
namespace Go.Proofs.YtjkapmghifglcaaDoor.Dv
set_option linter.unusedVariables false
open Go.RowKit Go.Shelf
open Ar Rg St
attribute [local go_sem] Oper.semAt_some
/-- of what has come, what is kept -/
def col (kf : Nat → Bool) (pre : List (Nat × Bk)) : List Bk := (pre.filter fun x => kf x.1).map (·.2)
theorem col_snoc (kf : Nat → Bool) (pre : List (Nat × Bk)) (x : Nat × Bk) : col kf (pre ++ [x]) = col kf pre ++ (if kf x.1 then [x.2] else []) := by
  unfold col
  rw [List.filter_append, List.map_append]
  cases h : kf x.1 <;> simp [h]
theorem col_len (kf : Nat → Bool) (pre : List (Nat × Bk)) : (col kf pre).length ≤ pre.length := by
  unfold col
  rw [List.length_map]
  exact List.length_filter_le _ _
theorem Own.keptIn {B : Nat} {X Y : World} {v : Value} {D : List Bk} {row : Option Nat} (h : Dv.Own B X v D) (hg : X.grownBy Y row) (hr : ∀ r, row = some r → ∃ o : Obj, X.heap[r]? = some o ∧ o.isCells = false) : Dv.Own B Y v D := by
  refine World.ownsRow.kept h hg ?_
  rcases h.2 with ⟨rfl, _⟩ | ⟨g, cap, cur, rfl, hb, hg2, _⟩
  · exact .inl rfl
  · right
    intro e
    obtain ⟨o, ho, hc⟩ := hr g e.symm
    rw [hg2] at ho
    cases ho
    cases hc
theorem new_cells (W : World) (x : Bk) : ∀ j u, (Sb.enc x)[j]? = some u → (W.alloc (.cells #[.int .u32 x.n, .string x.d] 41)).cell? ((⟨W.heap.size, 0, none⟩ : Addr).add j) = some u := by
  intro j u hu
  obtain ⟨b, o, he, _, hr⟩ := (Ls.new (enc := Sb.enc) (k := 2) W x 41 (W.heap.size + 1) (Nat.lt_succ_self _)) 0 x rfl
  cases he
  rw [Ar.add_plain]
  exact hr j u hu
theorem own_snoc {B : Nat} {w : World} {v : Value} {D : List Bk} {x : Bk} (h : w.ownsRow B 41 2 v (D.length + 1) (D.flatMap Sb.enc ++ Sb.enc x)) : Dv.Own B w v (D ++ [x]) := by
  unfold Dv.Own
  rw [List.length_append, List.flatMap_append]
  simpa using h
theorem own_cells {B : Nat} {w : World} {v : Value} {D : List Bk} (h : Dv.Own B w v D) (j : Nat) (o : Obj) (e : v.ownBlock = some j) (ho : w.heap[j]? = some o) : o.isCells = true := by
  rcases h.2 with ⟨rfl, _⟩ | ⟨g, cap, cur, rfl, hb, hg2, _⟩
  · cases e
  · cases e
    rw [hg2] at ho
    cases ho
    rfl
theorem SlB.keptIn {X Y : World} {A : Option Addr} {n c : Nat} {D : List Bk} {row : Option Nat} (h : SlB X A n c D) (hg : X.grownBy Y row) (hr : ∀ r, row = some r → ∃ o : Obj, X.heap[r]? = some o ∧ o.isCells = false) : SlB Y A n c D := by
  obtain ⟨h1, h2, h3, B, hB, hL⟩ := h
  refine ⟨h1, h2, h3, B, Nat.le_trans hB hg.size, fun i x hx => ?_⟩
  obtain ⟨b, o, e, hb, hr2⟩ := hL i x hx
  exact ⟨b, o, e, hb, fun j v hv => cell_kept (hr2 j v hv) hg hr⟩
theorem KpB.grown {n₀ Bs : Nat} {X Y : World} {row : Option Nat} (hg : X.grownBy Y row) (h0 : n₀ ≤ X.heap.size) (hb : Bs < X.heap.size) (hr : ∀ k, row = some k → n₀ ≤ k ∧ Bs < k) : KpB n₀ Bs X Y :=
  ⟨(Below.refl _ _).grown hg h0 (fun k e => (hr k e).1), hg.block Bs hb (fun e => by have := (hr Bs e.symm).2; omega)⟩
set_option maxRecDepth 100000 in
set_option maxHeartbeats 2000000 in
theorem newest_all (N : Nat) (D W : List Bk) (A A' : Option Addr) (n c m c' : Nat) (dn : Bool) (fu : Int) (hm : m ≤ 1099511627776) (w : World) (hW : SlB w A' m c' W) (kf : Nat → Bool)
    (hkp : ∀ (i : Nat) (W' : World), Below w.heap.size w W' → Calls Tryd.prog 37 #[.int .i64 i] W' fun e w' => e = .returned (.bool (kf i)) ∧ W' = w') :
    Calls Tryd.prog 53 #[devV N (.slice A n c) (.slice A' m c') dn fu, (.func (.func 37) #[] #[])] w fun e w' => (∃ B C d S, e = .returned (.slice B C d) ∧ SlB w' B C d (cm S S.length) ∧ S.length ≤ m ∧ Srt key lt S ∧ Sm key (col kf (fl W m)) S) ∧ Below w.heap.size w w' := by
  unfold devV
  refine (callsIn_wide (n := 4)).1 ?_
  refine callsIn_of_wp_marks Tryd.func53 rfl trivial ?_ rfl
  simp only [Tryd.ntmps53, List.size_toArray, List.length_cons, List.length_nil, Nat.reduceAdd, Nat.reduceSub, Array.replicate_succ, Array.replicate_zero, List.push_toArray, List.append_toArray, List.nil_append, List.cons_append]
  have HKP := Lib.hid hkp
  clear hkp
  gi_wp2_with (refine ⟨trivial, ?_⟩; gi_at_call 54; refine (callsIn_wide.2 (fromLast_any N A A' n c m c' dn fu _)).mono ?_; rintro e w' ⟨rfl, rfl⟩)
  obtain ⟨W1, hW1⟩ : ∃ W1, (((w.alloc (.cells #[.int .u32 N, .slice A n c, .slice A' m c', .bool dn, .int .i64 fu] 57)).alloc (.cells #[(.func (.func 37) #[] #[])] 61)).alloc (.cells #[.slice none 0 0] 23)).alloc (.cells #[.int .u32 N, .slice A n c, .slice A' m c', .bool dn, .int .i64 fu] 57) = W1 := ⟨_, rfl⟩
  have sz : W1.heap.size = w.heap.size + 4 := by rw [← hW1]; simp
  have z0 : (w.alloc (.cells #[.int .u32 N, .slice A n c, .slice A' m c', .bool dn, .int .i64 fu] 57)).heap.size = w.heap.size + 1 := by simp
  have z1 : ((w.alloc (.cells #[.int .u32 N, .slice A n c, .slice A' m c', .bool dn, .int .i64 fu] 57)).alloc (.cells #[(.func (.func 37) #[] #[])] 61)).heap.size = w.heap.size + 2 := by simp
  have z2 : (((w.alloc (.cells #[.int .u32 N, .slice A n c, .slice A' m c', .bool dn, .int .i64 fu] 57)).alloc (.cells #[(.func (.func 37) #[] #[])] 61)).alloc (.cells #[.slice none 0 0] 23)).heap.size = w.heap.size + 3 := by simp
  have hB1 : Below w.heap.size w W1 := by rw [← hW1]; exact ((((Below.refl _ _).alloc (Nat.le_refl _) _).alloc (by rw [z0]; omega) _).alloc (by rw [z1]; omega) _).alloc (by rw [z2]; omega) _
  have e1 := cell_one1 (w.alloc (.cells #[.int .u32 N, .slice A n c, .slice A' m c', .bool dn, .int .i64 fu] 57)) (.func (.func 37) #[] #[]) 61
  have e2 := Boxed.new ((w.alloc (.cells #[.int .u32 N, .slice A n c, .slice A' m c', .bool dn, .int .i64 fu] 57)).alloc (.cells #[(.func (.func 37) #[] #[])] 61)) 23 (.slice none 0 0)
  rw [z0] at e1
  rw [z1] at e2
  have k1 : Below (w.heap.size + 2) ((w.alloc (.cells #[.int .u32 N, .slice A n c, .slice A' m c', .bool dn, .int .i64 fu] 57)).alloc (.cells #[(.func (.func 37) #[] #[])] 61)) W1 := by
    rw [← hW1]
    exact ((Below.refl _ _).alloc (by rw [z1]; omega) _).alloc (by rw [z2]; omega) _
  have b1 : W1.cell? ⟨w.heap.size + 1, 0, none⟩ = some (.func (.func 37) #[] #[]) := (k1.cell (p := ⟨w.heap.size + 1, 0, none⟩) (Nat.lt_succ_self _)).trans e1.1
  have b2 : Boxed W1 (w.heap.size + 2) 23 (.slice none 0 0) := by rw [← hW1]; exact e2.alloc _
  have b3 : W1.cell? ⟨w.heap.size + 3, 2, none⟩ = some (.slice A' m c') := by
    have := (Box.new (((w.alloc (.cells #[.int .u32 N, .slice A n c, .slice A' m c', .bool dn, .int .i64 fu] 57)).alloc (.cells #[(.func (.func 37) #[] #[])] 61)).alloc (.cells #[.slice none 0 0] 23)) N (.slice A n c) (.slice A' m c') dn fu 57).c2
    rw [z2, hW1] at this
    exact this
  clear e1 e2 k1 z0 z1 z2
  rw [hW1]
  clear hW1
  obtain ⟨hmW, -, -, B', hB', hL'⟩ := hW
  have HMW := Lib.hid hmW
  have HLS := Lib.hid (show Hd (w.heap.size + 3) w.heap.size A' m c' W W1 from ⟨b3, (hL'.below (hB1.mono hB')).more hB'⟩)
  clear hmW hL'
  refine wpIn_rangeFunc_ownH rfl (by omega) (gf := 72) (lb := #[.pointer (some ⟨w.heap.size + 3, 0, none⟩)]) rfl trivial (enters_of Tryd.func72 (by kernel_rfl) rfl)
    (last_stopsK _ _ trivial rfl (by omega) (w.heap.size + 3) w.heap.size A' m c' W HMW.out hm W1 (by rw [sz]; omega) (by rw [sz]; omega) HLS.out) KpB.trans (KpB.putObj (by rw [sz]; omega) (by rw [sz]; omega)) (Below.refl _ _) (fun _ => rfl)
    (fun pre W' => ((∃ v, Boxed W' (w.heap.size + 2) 23 v ∧ Dv.Own (w.heap.size + 4) W' v (col kf pre)) ∧ W'.cell? ⟨w.heap.size + 1, 0, none⟩ = some (.func (.func 37) #[] #[]) ∧ w.heap.size + 4 ≤ W'.heap.size) ∧ Below w.heap.size w W')
    (fun _ _ _ => False)
    (OwnFrom.and (fun s X Y row hs hg hr => ?hi) (ownFrom_below (Nat.le_refl _) (by rw [sz]; omega)))
    (fun _ _ _ _ _ hs _ _ => hs)
    ⟨⟨⟨_, b2, Dv.Own.nil _ _⟩, b1, by rw [sz]; omega⟩, hB1⟩
    (fun x a' W' => ∃ Bx, w.heap.size + 4 ≤ Bx ∧ Bx < W'.heap.size ∧ W'.cell? ⟨Bx, 0, none⟩ = some (.int .u32 x.2.n) ∧ W'.cell? ⟨Bx, 1, none⟩ = some (.string x.2.d) ∧ a' = { tmps := #[.agg #[.int .u32 N, .slice A n c, .slice A' m c', .bool dn, .int .i64 fu], (.func (.func 37) #[] #[]), .pointer (some ⟨w.heap.size, 0, none⟩), .pointer (some ⟨w.heap.size + 1, 0, none⟩), .slice none 0 0, .pointer (some ⟨w.heap.size + 2, 0, none⟩), .int .i64 x.1, .pointer (some ⟨Bx, 0, none⟩), .agg #[.int .u32 N, .slice A n c, .slice A' m c', .bool dn, .int .i64 fu], .func (.func 72) #[] #[.pointer (some ⟨w.heap.size + 3, 0, none⟩)], .int .i64 x.1, .agg #[.int .u32 x.2.n, .string x.2.d], undef, undef, undef, undef, undef, undef, undef, undef, undef, undef, undef], defers := [] })
    (fun x a' s X Y row hs hg hr => ?hax) ?assign ?body ?done ?stop
  case hi =>
    obtain ⟨⟨v, h1, h2⟩, h3, h4⟩ := hs
    exact ⟨⟨v, h1.kept hg (fun e => by have := (hr _ e.symm).1; rw [sz] at this; omega), h2.keptIn hg (fun r e => (hr r e).2)⟩, cell_kept h3 hg (fun r e => (hr r e).2), Nat.le_trans h4 hg.size⟩
  case hax =>
    obtain ⟨Bx, h1, h2, h3, h4, h5⟩ := hs
    exact ⟨Bx, h1, Nat.lt_of_lt_of_le h2 hg.size, cell_kept h3 hg (fun r e => (hr r e).2), cell_kept h4 hg (fun r e => (hr r e).2), h5⟩
  case assign =>
    rintro l pre x W' K ⟨⟨⟨v, hv1, hv2⟩, hc, hsz⟩, hI⟩ hK
    simp only [encP, Sb.enc]
    gi_wp2
    exact hK _ _ ((KeepsOthers.alloc _ _).from _) (KpB.of_below ((Below.refl W'.heap.size W').alloc (Nat.le_refl _) _) (by omega) (by omega)) ⟨⟨⟨v, hv1.alloc _, hv2.go ((Below.refl _ _).alloc (Nat.le_refl _) _)⟩, (((Below.refl W'.heap.size W').alloc (Nat.le_refl _) _).cell (p := ⟨w.heap.size + 1, 0, none⟩) (by show w.heap.size + 1 < _; omega)).trans hc, by simp; omega⟩, hI.alloc hI.size _⟩ ⟨W'.heap.size, by omega, by simp, by simp, by simp, rfl⟩
  case body =>
    rintro l pre x a' W' hl ⟨r, hr⟩ ⟨⟨⟨v, hv1, hv2⟩, hc, hsz⟩, hI⟩ ⟨Bx, h1, h2, h3, h4, rfl⟩ hlt
    have HC := Lib.hid (HKP.out x.1 W' hI)
    have hcl := col_len kf pre
    have hvc := hv1.cell
    have hvf := hv1.frozen
    by_cases hk : kf x.1 = true
    · rw [hk] at HC
      obtain ⟨A0, n0, c0, rfl, -⟩ := Dv.Own.sl hv2
      have HV := Lib.hid hv2
      have BL := Lib.hid ((Below.refl W'.heap.size W').alloc (Nat.le_refl _) (.cells #[.int .u32 x.2.n, .string x.2.d] 41))
      obtain ⟨i0, hi, hz0, hz1, hz2⟩ := info_parts infoB
      gi_wp2_with (first
        | (refine ⟨trivial, ?_⟩; gi_at_call 37; refine (CallsIn.inRound l (callsIn_wide.2 HC.out)).mono ?_; rintro e w5 ⟨rfl, rfl⟩)
        | (gi_at_builtin
           refine wpListIn_append_own _ rfl _ _ 23 rfl (w.heap.size + 4) 41 i0 _ 2 24 Tryd.underlying23 hi hz0 hz1 hz2 rfl (by decide) _ _ _ rfl (HV.out.go BL.out) ⟨W'.heap.size, 0, none⟩ 1 1 (Sb.enc x.2) rfl rfl (new_cells W' x.2) (Sb.enc_one x.2) (by unfold maxLen; omega) (by omega) (by simp; omega) ?_
           intro v' w1 hown' hgrow _
           have hO := own_snoc hown'
           obtain ⟨A2, n2, c2, rfl, -⟩ := Dv.Own.sl hO
           have hb2 := (hv1.alloc (.cells #[.int .u32 x.2.n, .string x.2.d] 41)).kept hgrow (fun e => by have := (HV.out.lt _ e.symm).1; omega)
           have y1 := hb2.cell
           have y2 := hb2.frozen))
      have q1 := (World.cell?_of_block (a := ⟨w.heap.size + 1, 0, none⟩) (hgrow.block (w.heap.size + 1) (by simp; omega) (fun e => by have := (HV.out.lt _ e.symm).1; omega))).trans ((BL.out.cell (p := ⟨w.heap.size + 1, 0, none⟩) (by show w.heap.size + 1 < _; omega)).trans hc)
      have hKP : KpB w.heap.size (w.heap.size + 3) W' (w1.setCell ⟨w.heap.size + 2, 0, none⟩ (.slice A2 n2 c2)) := (KpB.of_below BL.out (by omega) (by omega)).trans ((KpB.grown hgrow (by simp; omega) (by simp; omega) (fun k e => by have := (HV.out.lt k e).1; omega)).trans (KpB.setCell (p := ⟨w.heap.size + 2, 0, none⟩) (by show w.heap.size ≤ w.heap.size + 2; omega) (by show w.heap.size + 3 ≠ w.heap.size + 2; omega) _))
      exact ⟨((KeepsOthers.alloc _ _).trans ((KeepsOthers.of_grownBy hgrow (fun j o e ho => own_cells (HV.out.go BL.out) j o e ho)).trans (KeepsOthers.setCell _ _ _))).from _, hKP,
        ⟨⟨_, hb2.set _, by rw [col_snoc, hk]; exact hO.far (p := ⟨w.heap.size + 2, 0, none⟩) (by show w.heap.size + 2 < w.heap.size + 4; omega) _⟩, (World.cell?_setCell_other _ ⟨w.heap.size + 2, 0, none⟩ ⟨w.heap.size + 1, 0, none⟩ _ (by simp)).trans q1, Nat.le_trans hsz hKP.low.size⟩, hI.trans hKP.low⟩
    · have hk' : kf x.1 = false := by simpa using hk
      rw [hk'] at HC
      gi_wp2_with (refine ⟨trivial, ?_⟩; gi_at_call 37; refine (CallsIn.inRound l (callsIn_wide.2 HC.out)).mono ?_; rintro e w5 ⟨rfl, rfl⟩)
      exact ⟨KeepsFrom.refl _ _, KpB.refl _ _ _, ⟨⟨v, hv1, by rw [col_snoc, hk']; simpa using hv2⟩, hc, hsz⟩, hI⟩
  case done =>
    rintro DD xs W2 hD0 rfl ⟨⟨⟨v, hv1, hv2⟩, hc, hsz⟩, hI⟩ hK
    obtain ⟨A0, n0, c0, rfl, -⟩ := Dv.Own.sl hv2
    have hcl : (col kf (fl W m)).length ≤ m := by have := col_len kf (fl W m); rw [fl_len] at this; exact this
    have hlow : ∀ k, (Value.slice A0 n0 c0).ownBlock = some k → w.heap.size + 4 ≤ k := fun k e => (hv2.lt k e).1
    have hne : some DD ≠ (Value.slice A0 n0 c0).ownBlock := fun e => by have := own_cells hv2 DD _ e.symm hK; cases this
    have HST := Lib.hid (sortB_any (col kf (fl W m)) (w.heap.size + 4) W2 _ hv2.lay (by omega))
    unfold Sb.CMP at HST
    have y0 := hv1.cell
    gi_wp2_with fail
    refine ⟨trivial, ?_⟩
    gi_at_call 69
    refine (callsIn_wide.2 HST.out).mono ?_
    rintro e w3 ⟨rfl, hg3, S, hS1, hS2, hS3, hS4⟩
    have hv3 := hv1.kept hg3 (fun e => by have := hlow _ e.symm; omega)
    have y3 := hv3.cell
    have hK3 := (hg3.block DD (Array.getElem?_eq_some_iff.1 hK).1 hne).trans hK
    have HCT := Lib.hid (compactB_any S (w.heap.size + 4) w3 _ hS4 (by omega))
    unfold SAME at HCT
    gi_wp2_with fail
    refine ⟨trivial, ?_⟩
    gi_at_call 70
    refine (callsIn_wide.2 HCT.out).mono ?_
    rintro e w4 ⟨⟨B, C, d, rfl, hSl⟩, hg4⟩
    have hK4 := (hg4.block DD (Array.getElem?_eq_some_iff.1 hK3).1 hne).trans hK3
    gi_wp2
    refine ⟨by simp, .inl ⟨_, _, rfl, run_takeDeferred hK4, ?_⟩⟩
    have hI3 := hI.grown hg3 hI.size (fun k e => by have := hlow k e; omega)
    have hI4 := hI3.grown hg4 hI3.size (fun k e => by have := hlow k e; omega)
    exact ⟨_, results_tmp rfl _ _ _, ⟨B, C, d, S, rfl, hSl.keptIn (grownBy_putObj' _ DD (.deferred none)) (fun r e => by cases e; exact ⟨_, hK4, rfl⟩), by omega, hS2, hS3⟩, hI4.trans (belowK_b (w := W1) (by rw [sz]; omega) _ DD _ _ hD0 hK4 rfl rfl)⟩
  case stop =>
    rintro DD cd pre W2 hD h h2
    exact h2.elim
set_option maxRecDepth 100000 in
set_option maxHeartbeats 2000000 in
theorem newest_kept (N : Nat) (D W : List Bk) (A A' : Option Addr) (n c m c' : Nat) (dn : Bool) (fu : Int) (p : Addr) (hm : m ≤ 1099511627776) (w : World) (hW : SlB w A' m c' W) (kf : Nat → Bool)
    (hkp : ∀ (i : Nat) (W' : World), Below w.heap.size w W' → Calls Tryd.prog 42 #[.int .i64 i, .pointer (some p)] W' fun e w' => e = .returned (.bool (kf i)) ∧ W' = w') :
    Calls Tryd.prog 53 #[devV N (.slice A n c) (.slice A' m c') dn fu, (.func (.func 42) #[] #[.pointer (some p)])] w fun e w' => (∃ B C d S, e = .returned (.slice B C d) ∧ SlB w' B C d (cm S S.length) ∧ S.length ≤ m ∧ Srt key lt S ∧ Sm key (col kf (fl W m)) S) ∧ Below w.heap.size w w' := by
  unfold devV
  refine (callsIn_wide (n := 4)).1 ?_
  refine callsIn_of_wp_marks Tryd.func53 rfl trivial ?_ rfl
  simp only [Tryd.ntmps53, List.size_toArray, List.length_cons, List.length_nil, Nat.reduceAdd, Nat.reduceSub, Array.replicate_succ, Array.replicate_zero, List.push_toArray, List.append_toArray, List.nil_append, List.cons_append]
  have HKP := Lib.hid hkp
  clear hkp
  gi_wp2_with (refine ⟨trivial, ?_⟩; gi_at_call 54; refine (callsIn_wide.2 (fromLast_any N A A' n c m c' dn fu _)).mono ?_; rintro e w' ⟨rfl, rfl⟩)
  obtain ⟨W1, hW1⟩ : ∃ W1, (((w.alloc (.cells #[.int .u32 N, .slice A n c, .slice A' m c', .bool dn, .int .i64 fu] 57)).alloc (.cells #[(.func (.func 42) #[] #[.pointer (some p)])] 61)).alloc (.cells #[.slice none 0 0] 23)).alloc (.cells #[.int .u32 N, .slice A n c, .slice A' m c', .bool dn, .int .i64 fu] 57) = W1 := ⟨_, rfl⟩
  have sz : W1.heap.size = w.heap.size + 4 := by rw [← hW1]; simp
  have z0 : (w.alloc (.cells #[.int .u32 N, .slice A n c, .slice A' m c', .bool dn, .int .i64 fu] 57)).heap.size = w.heap.size + 1 := by simp
  have z1 : ((w.alloc (.cells #[.int .u32 N, .slice A n c, .slice A' m c', .bool dn, .int .i64 fu] 57)).alloc (.cells #[(.func (.func 42) #[] #[.pointer (some p)])] 61)).heap.size = w.heap.size + 2 := by simp
  have z2 : (((w.alloc (.cells #[.int .u32 N, .slice A n c, .slice A' m c', .bool dn, .int .i64 fu] 57)).alloc (.cells #[(.func (.func 42) #[] #[.pointer (some p)])] 61)).alloc (.cells #[.slice none 0 0] 23)).heap.size = w.heap.size + 3 := by simp
  have hB1 : Below w.heap.size w W1 := by rw [← hW1]; exact ((((Below.refl _ _).alloc (Nat.le_refl _) _).alloc (by rw [z0]; omega) _).alloc (by rw [z1]; omega) _).alloc (by rw [z2]; omega) _
  have e1 := cell_one1 (w.alloc (.cells #[.int .u32 N, .slice A n c, .slice A' m c', .bool dn, .int .i64 fu] 57)) (.func (.func 42) #[] #[.pointer (some p)]) 61
  have e2 := Boxed.new ((w.alloc (.cells #[.int .u32 N, .slice A n c, .slice A' m c', .bool dn, .int .i64 fu] 57)).alloc (.cells #[(.func (.func 42) #[] #[.pointer (some p)])] 61)) 23 (.slice none 0 0)
  rw [z0] at e1
  rw [z1] at e2
  have k1 : Below (w.heap.size + 2) ((w.alloc (.cells #[.int .u32 N, .slice A n c, .slice A' m c', .bool dn, .int .i64 fu] 57)).alloc (.cells #[(.func (.func 42) #[] #[.pointer (some p)])] 61)) W1 := by
    rw [← hW1]
    exact ((Below.refl _ _).alloc (by rw [z1]; omega) _).alloc (by rw [z2]; omega) _
  have b1 : W1.cell? ⟨w.heap.size + 1, 0, none⟩ = some (.func (.func 42) #[] #[.pointer (some p)]) := (k1.cell (p := ⟨w.heap.size + 1, 0, none⟩) (Nat.lt_succ_self _)).trans e1.1
  have b2 : Boxed W1 (w.heap.size + 2) 23 (.slice none 0 0) := by rw [← hW1]; exact e2.alloc _
  have b3 : W1.cell? ⟨w.heap.size + 3, 2, none⟩ = some (.slice A' m c') := by
    have := (Box.new (((w.alloc (.cells #[.int .u32 N, .slice A n c, .slice A' m c', .bool dn, .int .i64 fu] 57)).alloc (.cells #[(.func (.func 42) #[] #[.pointer (some p)])] 61)).alloc (.cells #[.slice none 0 0] 23)) N (.slice A n c) (.slice A' m c') dn fu 57).c2
    rw [z2, hW1] at this
    exact this
  clear e1 e2 k1 z0 z1 z2
  rw [hW1]
  clear hW1
  obtain ⟨hmW, -, -, B', hB', hL'⟩ := hW
  have HMW := Lib.hid hmW
  have HLS := Lib.hid (show Hd (w.heap.size + 3) w.heap.size A' m c' W W1 from ⟨b3, (hL'.below (hB1.mono hB')).more hB'⟩)
  clear hmW hL'
  refine wpIn_rangeFunc_ownH rfl (by omega) (gf := 72) (lb := #[.pointer (some ⟨w.heap.size + 3, 0, none⟩)]) rfl trivial (enters_of Tryd.func72 (by kernel_rfl) rfl)
    (last_stopsK _ _ trivial rfl (by omega) (w.heap.size + 3) w.heap.size A' m c' W HMW.out hm W1 (by rw [sz]; omega) (by rw [sz]; omega) HLS.out) KpB.trans (KpB.putObj (by rw [sz]; omega) (by rw [sz]; omega)) (Below.refl _ _) (fun _ => rfl)
    (fun pre W' => ((∃ v, Boxed W' (w.heap.size + 2) 23 v ∧ Dv.Own (w.heap.size + 4) W' v (col kf pre)) ∧ W'.cell? ⟨w.heap.size + 1, 0, none⟩ = some (.func (.func 42) #[] #[.pointer (some p)]) ∧ w.heap.size + 4 ≤ W'.heap.size) ∧ Below w.heap.size w W')
    (fun _ _ _ => False)
    (OwnFrom.and (fun s X Y row hs hg hr => ?hi) (ownFrom_below (Nat.le_refl _) (by rw [sz]; omega)))
    (fun _ _ _ _ _ hs _ _ => hs)
    ⟨⟨⟨_, b2, Dv.Own.nil _ _⟩, b1, by rw [sz]; omega⟩, hB1⟩
    (fun x a' W' => ∃ Bx, w.heap.size + 4 ≤ Bx ∧ Bx < W'.heap.size ∧ W'.cell? ⟨Bx, 0, none⟩ = some (.int .u32 x.2.n) ∧ W'.cell? ⟨Bx, 1, none⟩ = some (.string x.2.d) ∧ a' = { tmps := #[.agg #[.int .u32 N, .slice A n c, .slice A' m c', .bool dn, .int .i64 fu], (.func (.func 42) #[] #[.pointer (some p)]), .pointer (some ⟨w.heap.size, 0, none⟩), .pointer (some ⟨w.heap.size + 1, 0, none⟩), .slice none 0 0, .pointer (some ⟨w.heap.size + 2, 0, none⟩), .int .i64 x.1, .pointer (some ⟨Bx, 0, none⟩), .agg #[.int .u32 N, .slice A n c, .slice A' m c', .bool dn, .int .i64 fu], .func (.func 72) #[] #[.pointer (some ⟨w.heap.size + 3, 0, none⟩)], .int .i64 x.1, .agg #[.int .u32 x.2.n, .string x.2.d], undef, undef, undef, undef, undef, undef, undef, undef, undef, undef, undef], defers := [] })
    (fun x a' s X Y row hs hg hr => ?hax) ?assign ?body ?done ?stop
  case hi =>
    obtain ⟨⟨v, h1, h2⟩, h3, h4⟩ := hs
    exact ⟨⟨v, h1.kept hg (fun e => by have := (hr _ e.symm).1; rw [sz] at this; omega), h2.keptIn hg (fun r e => (hr r e).2)⟩, cell_kept h3 hg (fun r e => (hr r e).2), Nat.le_trans h4 hg.size⟩
  case hax =>
    obtain ⟨Bx, h1, h2, h3, h4, h5⟩ := hs
    exact ⟨Bx, h1, Nat.lt_of_lt_of_le h2 hg.size, cell_kept h3 hg (fun r e => (hr r e).2), cell_kept h4 hg (fun r e => (hr r e).2), h5⟩
  case assign =>
    rintro l pre x W' K ⟨⟨⟨v, hv1, hv2⟩, hc, hsz⟩, hI⟩ hK
    simp only [encP, Sb.enc]
    gi_wp2
    exact hK _ _ ((KeepsOthers.alloc _ _).from _) (KpB.of_below ((Below.refl W'.heap.size W').alloc (Nat.le_refl _) _) (by omega) (by omega)) ⟨⟨⟨v, hv1.alloc _, hv2.go ((Below.refl _ _).alloc (Nat.le_refl _) _)⟩, (((Below.refl W'.heap.size W').alloc (Nat.le_refl _) _).cell (p := ⟨w.heap.size + 1, 0, none⟩) (by show w.heap.size + 1 < _; omega)).trans hc, by simp; omega⟩, hI.alloc hI.size _⟩ ⟨W'.heap.size, by omega, by simp, by simp, by simp, rfl⟩
  case body =>
    rintro l pre x a' W' hl ⟨r, hr⟩ ⟨⟨⟨v, hv1, hv2⟩, hc, hsz⟩, hI⟩ ⟨Bx, h1, h2, h3, h4, rfl⟩ hlt
    have HC := Lib.hid (HKP.out x.1 W' hI)
    have hcl := col_len kf pre
    have hvc := hv1.cell
    have hvf := hv1.frozen
    by_cases hk : kf x.1 = true
    · rw [hk] at HC
      obtain ⟨A0, n0, c0, rfl, -⟩ := Dv.Own.sl hv2
      have HV := Lib.hid hv2
      have BL := Lib.hid ((Below.refl W'.heap.size W').alloc (Nat.le_refl _) (.cells #[.int .u32 x.2.n, .string x.2.d] 41))
      obtain ⟨i0, hi, hz0, hz1, hz2⟩ := info_parts infoB
      gi_wp2_with (first
        | (refine ⟨trivial, ?_⟩; gi_at_call 42; refine (CallsIn.inRound l (callsIn_wide.2 HC.out)).mono ?_; rintro e w5 ⟨rfl, rfl⟩)
        | (gi_at_builtin
           refine wpListIn_append_own _ rfl _ _ 23 rfl (w.heap.size + 4) 41 i0 _ 2 24 Tryd.underlying23 hi hz0 hz1 hz2 rfl (by decide) _ _ _ rfl (HV.out.go BL.out) ⟨W'.heap.size, 0, none⟩ 1 1 (Sb.enc x.2) rfl rfl (new_cells W' x.2) (Sb.enc_one x.2) (by unfold maxLen; omega) (by omega) (by simp; omega) ?_
           intro v' w1 hown' hgrow _
           have hO := own_snoc hown'
           obtain ⟨A2, n2, c2, rfl, -⟩ := Dv.Own.sl hO
           have hb2 := (hv1.alloc (.cells #[.int .u32 x.2.n, .string x.2.d] 41)).kept hgrow (fun e => by have := (HV.out.lt _ e.symm).1; omega)
           have y1 := hb2.cell
           have y2 := hb2.frozen))
      have q1 := (World.cell?_of_block (a := ⟨w.heap.size + 1, 0, none⟩) (hgrow.block (w.heap.size + 1) (by simp; omega) (fun e => by have := (HV.out.lt _ e.symm).1; omega))).trans ((BL.out.cell (p := ⟨w.heap.size + 1, 0, none⟩) (by show w.heap.size + 1 < _; omega)).trans hc)
      have hKP : KpB w.heap.size (w.heap.size + 3) W' (w1.setCell ⟨w.heap.size + 2, 0, none⟩ (.slice A2 n2 c2)) := (KpB.of_below BL.out (by omega) (by omega)).trans ((KpB.grown hgrow (by simp; omega) (by simp; omega) (fun k e => by have := (HV.out.lt k e).1; omega)).trans (KpB.setCell (p := ⟨w.heap.size + 2, 0, none⟩) (by show w.heap.size ≤ w.heap.size + 2; omega) (by show w.heap.size + 3 ≠ w.heap.size + 2; omega) _))
      exact ⟨((KeepsOthers.alloc _ _).trans ((KeepsOthers.of_grownBy hgrow (fun j o e ho => own_cells (HV.out.go BL.out) j o e ho)).trans (KeepsOthers.setCell _ _ _))).from _, hKP,
        ⟨⟨_, hb2.set _, by rw [col_snoc, hk]; exact hO.far (p := ⟨w.heap.size + 2, 0, none⟩) (by show w.heap.size + 2 < w.heap.size + 4; omega) _⟩, (World.cell?_setCell_other _ ⟨w.heap.size + 2, 0, none⟩ ⟨w.heap.size + 1, 0, none⟩ _ (by simp)).trans q1, Nat.le_trans hsz hKP.low.size⟩, hI.trans hKP.low⟩
    · have hk' : kf x.1 = false := by simpa using hk
      rw [hk'] at HC
      gi_wp2_with (refine ⟨trivial, ?_⟩; gi_at_call 42; refine (CallsIn.inRound l (callsIn_wide.2 HC.out)).mono ?_; rintro e w5 ⟨rfl, rfl⟩)
      exact ⟨KeepsFrom.refl _ _, KpB.refl _ _ _, ⟨⟨v, hv1, by rw [col_snoc, hk']; simpa using hv2⟩, hc, hsz⟩, hI⟩
  case done =>
    rintro DD xs W2 hD0 rfl ⟨⟨⟨v, hv1, hv2⟩, hc, hsz⟩, hI⟩ hK
    obtain ⟨A0, n0, c0, rfl, -⟩ := Dv.Own.sl hv2
    have hcl : (col kf (fl W m)).length ≤ m := by have := col_len kf (fl W m); rw [fl_len] at this; exact this
    have hlow : ∀ k, (Value.slice A0 n0 c0).ownBlock = some k → w.heap.size + 4 ≤ k := fun k e => (hv2.lt k e).1
    have hne : some DD ≠ (Value.slice A0 n0 c0).ownBlock := fun e => by have := own_cells hv2 DD _ e.symm hK; cases this
    have HST := Lib.hid (sortB_any (col kf (fl W m)) (w.heap.size + 4) W2 _ hv2.lay (by omega))
    unfold Sb.CMP at HST
    have y0 := hv1.cell
    gi_wp2_with fail
    refine ⟨trivial, ?_⟩
    gi_at_call 69
    refine (callsIn_wide.2 HST.out).mono ?_
    rintro e w3 ⟨rfl, hg3, S, hS1, hS2, hS3, hS4⟩
    have hv3 := hv1.kept hg3 (fun e => by have := hlow _ e.symm; omega)
    have y3 := hv3.cell
    have hK3 := (hg3.block DD (Array.getElem?_eq_some_iff.1 hK).1 hne).trans hK
    have HCT := Lib.hid (compactB_any S (w.heap.size + 4) w3 _ hS4 (by omega))
    unfold SAME at HCT
    gi_wp2_with fail
    refine ⟨trivial, ?_⟩
    gi_at_call 70
    refine (callsIn_wide.2 HCT.out).mono ?_
    rintro e w4 ⟨⟨B, C, d, rfl, hSl⟩, hg4⟩
    have hK4 := (hg4.block DD (Array.getElem?_eq_some_iff.1 hK3).1 hne).trans hK3
    gi_wp2
    refine ⟨by simp, .inl ⟨_, _, rfl, run_takeDeferred hK4, ?_⟩⟩
    have hI3 := hI.grown hg3 hI.size (fun k e => by have := hlow k e; omega)
    have hI4 := hI3.grown hg4 hI3.size (fun k e => by have := hlow k e; omega)
    exact ⟨_, results_tmp rfl _ _ _, ⟨B, C, d, S, rfl, hSl.keptIn (grownBy_putObj' _ DD (.deferred none)) (fun r e => by cases e; exact ⟨_, hK4, rfl⟩), by omega, hS2, hS3⟩, hI4.trans (belowK_b (w := W1) (by rw [sz]; omega) _ DD _ _ hD0 hK4 rfl rfl)⟩
  case stop =>
    rintro DD cd pre W2 hD h h2
    exact h2.elim
end Go.Proofs.YtjkapmghifglcaaDoor.Dv
