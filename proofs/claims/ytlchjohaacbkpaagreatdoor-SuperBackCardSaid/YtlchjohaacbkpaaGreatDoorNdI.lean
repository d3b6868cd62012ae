/- Contracts of package node's Encode, Decode. -/
import Derived.Test.YtlchjohaacbkpaaGreatDoorNdP
import Derived.Test.YtlchjohaacbkpaaGreatDoorNdW
namespace Go.Proofs.YtlchjohaacbkpaaGreatDoor.Nd
set_option linter.unusedVariables false
set_option linter.unusedSimpArgs false
open Go.ChangeShapes Go.WideShapes Go.ChangeAt Go.RowKit
open Ar Rg
open BigFrame
open Pk (be num be_length u8s u8s_length)
open It (str_le below_drewN)
/-- Encode's answer -/
def encB (n : Nd) : ByteArray := if ckN n = 0 then bs (encN n) else ByteArray.empty
theorem seal_yes (l : List UInt8) (h : l.length ≤ 508) (w : World) : Calls Tryz.prog 43 #[.string (bs l)] w fun e w' => e = .returned (.tuple #[.string (bs (sealL l)), .int .i64 0]) ∧ Below w.heap.size w w' := by
  have := seal_any (bs l) w
  unfold slB slE at this
  rwa [if_neg (by rw [bs_size]; omega), if_neg (by rw [bs_size]; omega), bs_data] at this
set_option maxRecDepth 100000 in
set_option maxHeartbeats 4000000 in
theorem encode_any (n : Nd) (hw : Wd n) (cs : Array Value) (w : World) (hn : NdAt w cs n) :
    Calls Tryz.prog 14 #[.agg cs] w fun e w' => e = .returned (.tuple #[.string (encB n), .int .i64 (ckN n)]) ∧ Below w.heap.size w w' := by
  have hcz := hn.size
  have HI := Lib.hid (show (Tryz.prog.info? 27).map (·.size) = some cs.size by rw [hcz]; kernel_rfl)
  have HB0 := Lib.hid (show Below w.heap.size w (w.alloc (.cells cs 27)) from (Below.refl _ _).alloc (Nat.le_refl _) _)
  have HR0 := Lib.hid (heap_alloc_new w (.cells cs 27))
  have HC1 := Lib.hid (fun w' (hb : Below w.heap.size w w') => check_any n hw cs w' (hn.below hb))
  by_cases hc : ckN n = 0
  · have HC2 := Lib.hid (fun w' (hb : Below w.heap.size w w') => written_any n (rt_fm hw (ck_zero.1 hc).1) cs w' (hn.below hb))
    have HC3 := Lib.hid (fun w' => seal_yes (wN n) (by rw [wN_len (rt_fm hw (ck_zero.1 hc).1)]; exact (ck_zero.1 hc).2) w')
    have HX := Lib.hid (show encB n = bs (sealL (wN n)) by unfold encB; rw [if_pos hc]; rfl)
    rw [HX.out, hc]
    rw [hc] at HC1
    clear hc hcz hn hw
    generalize bs (sealL (wN n)) = R at *
    generalize bs (wN n) = V at *
    go_enter Tryz.func14, Tryz.ntmps14
    go_wp2_with (first
      | (refine wpList_load_row rfl 27 (.tmp 1) rfl w.heap.size rfl 27 cs (0, 0) _ HR0.out Tryz.underlying27 rfl HI.out ?_)
      | (go_at_call 22; refine (HC1.out _ HB0.out).mono ?_; rintro e w3 ⟨rfl, hb3⟩; have HB3 := Lib.hid (HB0.out.trans (hb3.mono HB0.out.size)); have HR3 := Lib.hid ((hb3.block _ (row_lt HR0.out)).trans HR0.out); clear hb3)
      | (refine wpList_load_row rfl 27 (.tmp 1) rfl w.heap.size rfl 27 cs (0, 0) _ HR3.out Tryz.underlying27 rfl HI.out ?_)
      | (go_at_call 44; refine (HC2.out _ HB3.out).mono ?_; rintro e w4 ⟨rfl, hb4⟩; have HB4 := Lib.hid (HB3.out.trans (hb4.mono HB3.out.size)); clear hb4)
      | (go_at_call 43; refine (HC3.out _).mono ?_; rintro e w5 ⟨rfl, hb5⟩; have HB5 := Lib.hid (HB4.out.trans (hb5.mono HB4.out.size)); clear hb5))
    go_ret2
    exact ⟨rfl, HB5.out⟩
  · have HX := Lib.hid (show encB n = ByteArray.empty by unfold encB; rw [if_neg hc])
    rw [HX.out]
    have q : ((ckN n : Int) != 0) = true := by rw [bne_iff_ne]; exact hc
    generalize ckN n = C at *
    clear hc hcz hn hw
    go_enter Tryz.func14, Tryz.ntmps14
    go_wp2_with (first
      | (refine wpList_load_row rfl 27 (.tmp 1) rfl w.heap.size rfl 27 cs (0, 0) _ HR0.out Tryz.underlying27 rfl HI.out ?_)
      | (go_at_call 22; refine (HC1.out _ HB0.out).mono ?_; rintro e w3 ⟨rfl, hb3⟩; have HB3 := Lib.hid (HB0.out.trans (hb3.mono HB0.out.size)); clear hb3))
    go_ret2
    exact ⟨rfl, HB3.out⟩
/-! ## what is taken -/
section
variable {α : Type}
theorem many_len (C : Cod α) : ∀ (c : Nat) (s : S), (tkMany C c s).1.length ≤ c
  | 0, s => Nat.le_refl _
  | c + 1, s => by
    rw [tkMany]
    split
    · simp
    · have := many_len C c (C.tk s).2
      simp only [List.length_cons]
      omega
theorem many_all {C : Cod α} {p : α → Prop} (h : ∀ s, p (C.tk s).1) : ∀ (c : Nat) (s : S), ∀ x ∈ (tkMany C c s).1, p x
  | 0, s, x, hx => by cases hx
  | c + 1, s, x, hx => by
    rw [tkMany] at hx
    split at hx
    · have : x = (C.tk s).1 := by simpa using hx
      rw [this]; exact h s
    · rcases List.mem_cons.1 hx with rfl | hx
      · exact h s
      · exact many_all h c _ x hx
end
theorem K_wd (s : S) : (cK.tk s).1.n < 256 ^ 4 ∧ (cK.tk s).1.hs.length = 32 := by
  obtain ⟨V1, s1, e1⟩ : ∃ V s', tkTxt s = (V, s') := ⟨_, _, rfl⟩
  obtain ⟨V2, s2, e2⟩ : ∃ V s', tkNum 4 s1 = (V, s') := ⟨_, _, rfl⟩
  obtain ⟨V3, s3, e3⟩ : ∃ V s', tkHash s2 = (V, s') := ⟨_, _, rfl⟩
  have hX : (cK.tk s).1 = ⟨bs V1, V2, V3⟩ := by
    have := as_tk (A := cTxt.pair ((cNum 4).pair cHash)) (f := fun p => (⟨bs p.1, p.2.1, p.2.2⟩ : Kd)) (g := fun x => (x.k.data.toList, x.n, x.hs)) (pair_tk (A := cTxt) e1 (pair_tk (A := cNum 4) (B := cHash) e2 e3))
    exact congrArg Prod.fst this
  rw [hX]
  have h2 := num_width 4 s1
  have h3 := tkHash_len s2
  rw [e2] at h2
  rw [e3] at h3
  exact ⟨h2, h3⟩
theorem V_wd (s : S) : (cV.tk s).1.kd < 256 ^ 1 ∧ (cV.tk s).1.bn < 256 ^ 8 ∧ (cV.tk s).1.rt < 256 ^ 4 ∧ (cV.tk s).1.hs.length = 32 := by
  obtain ⟨V1, s1, e1⟩ : ∃ V s', tkTxt s = (V, s') := ⟨_, _, rfl⟩
  obtain ⟨V2, s2, e2⟩ : ∃ V s', tkTxt s1 = (V, s') := ⟨_, _, rfl⟩
  obtain ⟨V3, s3, e3⟩ : ∃ V s', tkNum 1 s2 = (V, s') := ⟨_, _, rfl⟩
  obtain ⟨V4, s4, e4⟩ : ∃ V s', tkNum 8 s3 = (V, s') := ⟨_, _, rfl⟩
  obtain ⟨V5, s5, e5⟩ : ∃ V s', tkNum 4 s4 = (V, s') := ⟨_, _, rfl⟩
  obtain ⟨V6, s6, e6⟩ : ∃ V s', tkHash s5 = (V, s') := ⟨_, _, rfl⟩
  have hX : (cV.tk s).1 = ⟨bs V1, V3, bs V2, V4, V5, V6⟩ := by
    have := as_tk (A := cTxt.pair (cTxt.pair ((cNum 1).pair ((cNum 8).pair ((cNum 4).pair cHash))))) (f := fun p => (⟨bs p.1, p.2.2.1, bs p.2.1, p.2.2.2.1, p.2.2.2.2.1, p.2.2.2.2.2⟩ : Vo)) (g := fun x => (x.nm.data.toList, x.fr.data.toList, x.kd, x.bn, x.rt, x.hs)) (pair_tk (A := cTxt) e1 (pair_tk (A := cTxt) e2 (pair_tk (A := cNum 1) e3 (pair_tk (A := cNum 8) e4 (pair_tk (A := cNum 4) (B := cHash) e5 e6)))))
    exact congrArg Prod.fst this
  rw [hX]
  have h3 := num_width 1 s2
  have h4 := num_width 8 s3
  have h5 := num_width 4 s4
  have h6 := tkHash_len s5
  rw [e3] at h3
  rw [e4] at h4
  rw [e5] at h5
  rw [e6] at h6
  exact ⟨h3, h4, h5, h6⟩
theorem tkN_fine (l : List UInt8) : Wd (tkN l).1 ∧ (tkN l).1.I.length ≤ 255 ∧ (tkN l).1.K.length ≤ 255 ∧ (tkN l).1.V.length ≤ 255 ∧ (tkN l).1.kd < 256 := by
  have hc := num_byte (tkNum 1 (l, false)).2
  have hk := num_byte (l, false)
  unfold tkN
  dsimp only
  split
  · exact ⟨⟨fun x hx => (by cases hx), fun x hx => (by cases hx)⟩, Nat.le_trans (many_len _ _ _) (by omega), Nat.zero_le _, Nat.zero_le _, hk⟩
  · split
    · exact ⟨⟨many_all K_wd _ _, fun x hx => (by cases hx)⟩, Nat.zero_le _, Nat.le_trans (many_len _ _ _) (by omega), Nat.zero_le _, hk⟩
    · split
      · exact ⟨⟨fun x hx => (by cases hx), many_all V_wd _ _⟩, Nat.zero_le _, Nat.zero_le _, Nat.le_trans (many_len _ _ _) (by omega), hk⟩
      · exact ⟨⟨fun x hx => (by cases hx), fun x hx => (by cases hx)⟩, Nat.zero_le _, Nat.zero_le _, Nat.zero_le _, hk⟩
theorem NdOwn.go {w w1 w2 : World} {cs : Array Value} {n : Nd} (h : NdOwn w w1 cs n) (hb : Below w1.heap.size w1 w2) : NdOwn w w2 cs n := by
  obtain ⟨vI, vK, vV, rfl, mI, mK, mV⟩ := h; exact ⟨_, _, _, rfl, mI.go hb, mK.go hb, mV.go hb⟩
theorem NdOwn.since {w0 w w1 : World} {cs : Array Value} {n : Nd} (h : NdOwn w w1 cs n) (hb : Below w0.heap.size w0 w) : NdOwn w0 w1 cs n := by
  obtain ⟨vI, vK, vV, rfl, mI, mK, mV⟩ := h; exact ⟨_, _, _, rfl, mI.since hb, mK.since hb, mV.since hb⟩
/-- beside a block of another type -/
theorem NdOwn.beside {w w1 w2 : World} {cs : Array Value} {n : Nd} {q : Nat} {old : Array Value} {t : TypeId} {f : Nat × Nat} (h : NdOwn w w1 cs n) (hq : w1.heap[q]? = some (.cells old t f)) (ht : t ≠ 88 ∧ t ≠ 83 ∧ t ≠ 86) (hg : w1.grownBy w2 (some q)) (hw : w.heap.size ≤ q) : NdOwn w w2 cs n := by
  obtain ⟨vI, vK, vV, rfl, mI, mK, mV⟩ := h
  exact ⟨_, _, _, rfl, mI.grownQ hg hw (mI.off hq ht.1), mK.grownQ hg hw (mK.off hq ht.2.1), mV.grownQ hg hw (mV.off hq ht.2.2)⟩
theorem NdOwn.one {w w1 : World} {cs : Array Value} {n : Nd} (h : NdOwn w w1 cs n) : cs.size = 4 ∧ cs.all (·.oneCell') = true := by
  obtain ⟨vI, vK, vV, rfl, mI, mK, mV⟩ := h
  obtain ⟨A1, c1, rfl, _, _, _⟩ := mI.ls It.enc_len
  obtain ⟨A2, c2, rfl, _, _, _⟩ := mK.ls ecK_len
  obtain ⟨A3, c3, rfl, _, _, _⟩ := mV.ls ecV_len
  exact ⟨rfl, four_cells _ _ _ _ rfl rfl rfl rfl⟩
abbrev zN : Array Value := #[.int .u8 0, zS, zS, zS]
theorem info4 {cs : Array Value} (h : cs.size = 4) : (Tryz.prog.info? 27).map (·.size) = some cs.size := by rw [h]; kernel_rfl
theorem dec_cases (d : List UInt8) : (openL d = none ∧ decN d = none) ∨ ∃ l, openL d = some l ∧ (((tkN l).2 = false ∧ decN d = none) ∨ ((tkN l).2 = true ∧ ckN (tkN l).1 ≠ 0 ∧ decN d = none) ∨ ((tkN l).2 = true ∧ ckN (tkN l).1 = 0 ∧ decN d = some (tkN l).1)) := by
  unfold decN
  cases h : openL d with
  | none => exact .inl ⟨rfl, rfl⟩
  | some l =>
    right
    refine ⟨l, rfl, ?_⟩
    dsimp only
    cases h2 : (tkN l).2
    · exact .inl ⟨rfl, if_neg (by simp)⟩
    · by_cases h3 : ckN (tkN l).1 = 0
      · exact .inr (.inr ⟨rfl, h3, if_pos ⟨rfl, h3⟩⟩)
      · exact .inr (.inl ⟨rfl, h3, if_neg (by simp [h3])⟩)
/-- Decode's answer -/
def DePost (d : ByteArray) (w : World) (e : Ending) (w' : World) : Prop := ∃ n cs, e = .returned (.tuple #[.agg cs, .int .i64 (if (decN d.data.toList).isSome then 0 else 9)]) ∧ NdOwn w w' cs n ∧ n = (decN d.data.toList).getD ⟨0, [], [], []⟩
theorem de_none {d : ByteArray} {w w' : World} {e : Ending} (h : decN d.data.toList = none) (he : e = .returned (.tuple #[.agg zN, .int .i64 9])) (hb : Below w.heap.size w w') : DePost d w e w' := by
  subst he
  unfold DePost
  rw [h]
  exact ⟨⟨0, [], [], []⟩, zN, rfl, ⟨_, _, _, rfl, Mk.nil hb, Mk.nil hb, Mk.nil hb⟩, rfl⟩
theorem de_some {d : ByteArray} {w w' : World} {e : Ending} {n : Nd} {cs : Array Value} (h : decN d.data.toList = some n) (he : e = .returned (.tuple #[.agg cs, .int .i64 0])) (hb : NdOwn w w' cs n) : DePost d w e w' := by
  subst he
  unfold DePost
  rw [h]
  exact ⟨n, cs, rfl, hb, rfl⟩
set_option maxRecDepth 100000 in
set_option maxHeartbeats 4000000 in
theorem decode_any (d : ByteArray) (hd : d.size ≤ 9223372036854775807) (w : World) : Calls Tryz.prog 16 #[.string d] w (DePost d w) := by
  have HOP := Lib.hid (fun w => opened_any d hd w)
  have HR0 := Lib.hid (heap_alloc_new w (.cells zN 27))
  have HB0 := Lib.hid (show Below w.heap.size w (w.alloc (.cells zN 27)) from (Below.refl _ _).alloc (Nat.le_refl _) _)
  rcases dec_cases d.data.toList with ⟨ho, hdn⟩ | ⟨l, ho, hrest⟩
  · have HD := Lib.hid hdn
    have HO := Lib.hid ho
    clear ho hdn
    go_enter Tryz.func16, Tryz.ntmps16
    go_wp2_with fail
    generalize w.alloc _ = w0 at *
    go_at_call 47
    refine (HOP.out _).mono ?_
    rintro e w3 ⟨r, rfl, hr, hb3⟩
    have HB3 := Lib.hid (HB0.out.trans (hb3.mono HB0.out.size))
    have HR3 := Lib.hid ((hb3.block _ (row_lt HR0.out)).trans HR0.out)
    have q : (openL d.data.toList).isSome = false := by rw [HO.out]; rfl
    clear hr hb3
    rw [q]
    clear q
    go_wp2_with (first
      | (refine wpList_store_row rfl 27 (.tmp 2) (.tmp 14) rfl w.heap.size zN rfl rfl 27 zN HR3.out (info4 rfl) rfl (four_cells _ _ _ _ rfl rfl rfl rfl) ?_))
    have hg2 := setRow_heap' (cs := zN) HR3.out
    refine bodyPost_ret (v := .tuple #[.agg zN, .int .i64 9]) (results_row2 rfl _ _ w.heap.size 27 zN (0, 0) _ rfl hg2 Tryz.underlying27 rfl (info4 rfl) _ rfl) rfl ?_
    exact de_none HD.out rfl (HB3.out.grown (grown_setRow _ w.heap.size zN) HB3.out.size (fun k hk => by cases hk; exact Nat.le_refl _))
  · have HO := Lib.hid ho
    have hll : l.length ≤ 512 := by
      have := seal_open ho
      omega
    have HTK := Lib.hid (fun w => taken_any (bs l) (by rw [bs_size]; unfold maxLen; omega) w)
    rw [bs_data] at HTK
    have hfine := tkN_fine l
    have HCK := Lib.hid (fun (w' : World) (cs : Array Value) (h : NdOwn w w' cs (tkN l).1) => check_any (tkN l).1 hfine.1 cs w' (h.at_ (by omega) (by omega) (by omega)))
    clear hfine hll ho
    rcases hrest with ⟨h2, hdn⟩ | ⟨h2, h3, hdn⟩ | ⟨h2, h3, hdn⟩
    · have HT2 := Lib.hid h2
      have HD := Lib.hid hdn
      clear h2 hdn
      go_enter Tryz.func16, Tryz.ntmps16
      go_wp2_with fail
      generalize w.alloc _ = w0 at *
      go_at_call 47
      refine (HOP.out _).mono ?_
      rintro e w3 ⟨r, rfl, hr, hb3⟩
      have HB3 := Lib.hid (HB0.out.trans (hb3.mono HB0.out.size))
      have HR3 := Lib.hid ((hb3.block _ (row_lt HR0.out)).trans HR0.out)
      have q : (openL d.data.toList).isSome = true := by rw [HO.out]; rfl
      have hrl := hr l HO.out
      subst hrl
      clear hr hb3
      rw [q]
      clear q
      go_wp2_with (first
        | (go_at_call 48; refine (HTK.out _).mono ?_; rintro e w4 ⟨cs, rfl, hown4⟩; have HO4 := Lib.hid hown4; have HR4 := Lib.hid ((hown4.bel.block _ (row_lt HR3.out)).trans HR3.out); have HB4 := Lib.hid (HB3.out.trans (hown4.bel.mono HB3.out.size)); clear hown4; rw [HT2.out])
        | (refine wpList_fresh rfl 27 (.tmp 6) (.tmp 18) rfl cs _ _ rfl rfl (info4 HO4.out.one.1) HO4.out.one.1.symm HO4.out.one.2 ?_; intro w5 hb5 hr5 hz5; have HO5 := Lib.hid ((HO4.out.go hb5).since HB3.out); have HR5 := Lib.hid ((hb5.block _ (row_lt HR4.out)).trans HR4.out); have HB5 := Lib.hid (HB4.out.trans (hb5.mono HB4.out.size)); have HN5 := Lib.hid hr5; have HL5 := Lib.hid (show w.heap.size < w4.heap.size from row_lt HR4.out); clear hb5 hr5 hz5)
        | (refine wpList_store_row rfl 27 (.tmp 2) (.tmp 27) rfl w.heap.size zN rfl rfl 27 zN HR5.out (info4 rfl) rfl (four_cells _ _ _ _ rfl rfl rfl rfl) ?_))
      have hg2 := setRow_heap' (cs := zN) HR5.out
      refine bodyPost_ret (v := .tuple #[.agg zN, .int .i64 9]) (results_row2 rfl _ _ w.heap.size 27 zN (0, 0) _ rfl hg2 Tryz.underlying27 rfl (info4 rfl) _ rfl) rfl ?_
      exact de_none HD.out rfl (HB5.out.grown (grown_setRow _ w.heap.size zN) HB5.out.size (fun k hk => by cases hk; exact Nat.le_refl _))
    · have HT2 := Lib.hid h2
      have HD := Lib.hid hdn
      have q3 : ((ckN (tkN l).1 : Int) != 0) = true := by rw [bne_iff_ne]; exact h3
      clear h2 hdn h3
      generalize ckN (tkN l).1 = C at *
      go_enter Tryz.func16, Tryz.ntmps16
      go_wp2_with fail
      generalize w.alloc _ = w0 at *
      go_at_call 47
      refine (HOP.out _).mono ?_
      rintro e w3 ⟨r, rfl, hr, hb3⟩
      have HB3 := Lib.hid (HB0.out.trans (hb3.mono HB0.out.size))
      have HR3 := Lib.hid ((hb3.block _ (row_lt HR0.out)).trans HR0.out)
      have q : (openL d.data.toList).isSome = true := by rw [HO.out]; rfl
      have hrl := hr l HO.out
      subst hrl
      clear hr hb3
      rw [q]
      clear q
      go_wp2_with (first
        | (go_at_call 48; refine (HTK.out _).mono ?_; rintro e w4 ⟨cs, rfl, hown4⟩; have HO4 := Lib.hid hown4; have HR4 := Lib.hid ((hown4.bel.block _ (row_lt HR3.out)).trans HR3.out); have HB4 := Lib.hid (HB3.out.trans (hown4.bel.mono HB3.out.size)); clear hown4; rw [HT2.out])
        | (refine wpList_fresh rfl 27 (.tmp 6) (.tmp 18) rfl cs _ _ rfl rfl (info4 HO4.out.one.1) HO4.out.one.1.symm HO4.out.one.2 ?_; intro w5 hb5 hr5 hz5; have HO5 := Lib.hid ((HO4.out.go hb5).since HB3.out); have HR5 := Lib.hid ((hb5.block _ (row_lt HR4.out)).trans HR4.out); have HB5 := Lib.hid (HB4.out.trans (hb5.mono HB4.out.size)); have HN5 := Lib.hid hr5; have HL5 := Lib.hid (show w.heap.size < w4.heap.size from row_lt HR4.out); clear hb5 hr5 hz5)
        | (refine wpList_load_row_g 27 (.tmp 6) rfl (by kernel_rfl) w4.heap.size rfl 27 cs (0, 0) _ HN5.out Tryz.underlying27 rfl (info4 HO4.out.one.1) ?_)
        | (go_at_call 22; refine (HCK.out _ _ HO5.out).mono ?_; rintro e w6 ⟨rfl, hb6⟩; have HO6 := Lib.hid (HO5.out.go hb6); have HR6 := Lib.hid ((hb6.block _ (row_lt HR5.out)).trans HR5.out); have HN6 := Lib.hid ((hb6.block _ (row_lt HN5.out)).trans HN5.out); have HB6 := Lib.hid (HB5.out.trans (hb6.mono HB5.out.size)); clear hb6)
        | (refine wpList_store_row rfl 27 (.tmp 2) (.tmp 27) rfl w.heap.size zN rfl rfl 27 zN HR6.out (info4 rfl) rfl (four_cells _ _ _ _ rfl rfl rfl rfl) ?_))
      have hg2 := setRow_heap' (cs := zN) HR6.out
      refine bodyPost_ret (v := .tuple #[.agg zN, .int .i64 9]) (results_row2 rfl _ _ w.heap.size 27 zN (0, 0) _ rfl hg2 Tryz.underlying27 rfl (info4 rfl) _ rfl) rfl ?_
      exact de_none HD.out rfl (HB6.out.grown (grown_setRow _ w.heap.size zN) HB6.out.size (fun k hk => by cases hk; exact Nat.le_refl _))
    · have HT2 := Lib.hid h2
      have HD := Lib.hid hdn
      rw [h3] at HCK
      clear h2 hdn h3
      go_enter Tryz.func16, Tryz.ntmps16
      go_wp2_with fail
      generalize w.alloc _ = w0 at *
      go_at_call 47
      refine (HOP.out _).mono ?_
      rintro e w3 ⟨r, rfl, hr, hb3⟩
      have HB3 := Lib.hid (HB0.out.trans (hb3.mono HB0.out.size))
      have HR3 := Lib.hid ((hb3.block _ (row_lt HR0.out)).trans HR0.out)
      have q : (openL d.data.toList).isSome = true := by rw [HO.out]; rfl
      have hrl := hr l HO.out
      subst hrl
      clear hr hb3
      rw [q]
      clear q
      go_wp2_with (first
        | (go_at_call 48; refine (HTK.out _).mono ?_; rintro e w4 ⟨cs, rfl, hown4⟩; have HO4 := Lib.hid hown4; have HR4 := Lib.hid ((hown4.bel.block _ (row_lt HR3.out)).trans HR3.out); have HB4 := Lib.hid (HB3.out.trans (hown4.bel.mono HB3.out.size)); clear hown4; rw [HT2.out])
        | (refine wpList_fresh rfl 27 (.tmp 6) (.tmp 18) rfl cs _ _ rfl rfl (info4 HO4.out.one.1) HO4.out.one.1.symm HO4.out.one.2 ?_; intro w5 hb5 hr5 hz5; have HO5 := Lib.hid ((HO4.out.go hb5).since HB3.out); have HR5 := Lib.hid ((hb5.block _ (row_lt HR4.out)).trans HR4.out); have HB5 := Lib.hid (HB4.out.trans (hb5.mono HB4.out.size)); have HN5 := Lib.hid hr5; have HL5 := Lib.hid (show w.heap.size < w4.heap.size from row_lt HR4.out); clear hb5 hr5 hz5)
        | (refine wpList_load_row_g 27 (.tmp 6) rfl (by kernel_rfl) w4.heap.size rfl 27 cs (0, 0) _ HN5.out Tryz.underlying27 rfl (info4 HO4.out.one.1) ?_)
        | (go_at_call 22; refine (HCK.out _ _ HO5.out).mono ?_; rintro e w6 ⟨rfl, hb6⟩; have HO6 := Lib.hid (HO5.out.go hb6); have HR6 := Lib.hid ((hb6.block _ (row_lt HR5.out)).trans HR5.out); have HN6 := Lib.hid ((hb6.block _ (row_lt HN5.out)).trans HN5.out); have HB6 := Lib.hid (HB5.out.trans (hb6.mono HB5.out.size)); clear hb6)
        | (refine wpList_load_row rfl 27 (.tmp 6) rfl w4.heap.size rfl 27 cs (0, 0) _ HN6.out Tryz.underlying27 rfl (info4 HO4.out.one.1) ?_)
        | (refine wpList_store_row rfl 27 (.tmp 2) (.tmp 28) rfl w.heap.size cs rfl rfl 27 zN HR6.out (info4 HO4.out.one.1) HO4.out.one.1.symm HO4.out.one.2 ?_))
      have hg2 := setRow_heap' (cs := cs) HR6.out
      refine bodyPost_ret (v := .tuple #[.agg cs, .int .i64 0]) (results_row2 rfl _ _ w.heap.size 27 cs (0, 0) _ rfl hg2 Tryz.underlying27 rfl (info4 HO4.out.one.1) _ rfl) rfl ?_
      exact de_some HD.out rfl (HO6.out.beside HR6.out (by decide) (grown_setRow _ w.heap.size cs) (Nat.le_refl _))
end Go.Proofs.YtlchjohaacbkpaaGreatDoor.Nd
