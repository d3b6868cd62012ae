/- The document's own Decode of nodes. -/
import Derived.Test.YtnfcgifkghegjaaGreatDoorNfN
import Derived.Test.YtnfcgifkghegjaaGreatDoorGa
import Derived.Test.YtnfcgifkghegjaaGreatDoorGb
import Derived.Test.YtnfcgifkghegjaaGreatDoorGc
namespace Go.Proofs.YtnfcgifkghegjaaGreatDoor.Nr
set_option linter.unusedVariables false
set_option linter.unusedSimpArgs false
open Go.ChangeShapes Go.WideShapes Go.ChangeAt Go.RowKit
open Nd Ar Rg
open BigFrame
open Pk (be num u8s u8s_length num_lt)
/-- what was taken without being bad can be written -/
theorem tb_few {l : List UInt8} (h : (tbN l).2 = false) : Wd (tbN l).1 ∧ (tbN l).1.I.length ≤ 255 ∧ (tbN l).1.K.length ≤ 255 ∧ (tbN l).1.V.length ≤ 255 := by
  obtain ⟨kd, s1, hp⟩ : ∃ kd s1, tkNum 1 (l, false) = (kd, s1) := ⟨_, _, rfl⟩
  obtain ⟨c, s2, hq⟩ : ∃ c s2, tkNum 1 s1 = (c, s2) := ⟨_, _, rfl⟩
  have hc := num_byte s1
  rw [hq] at hc
  dsimp only at hc
  have e : tbN l = if kd = 1 then (⟨kd, (tkMany cI c s2).1, [], []⟩, (tkMany cI c s2).2.2) else if kd = 2 then (⟨kd, [], (tkMany cK c s2).1, []⟩, (tkMany cK c s2).2.2) else if kd = 3 then (⟨kd, [], [], (tkMany cV c s2).1⟩, (tkMany cV c s2).2.2) else (⟨kd, [], [], []⟩, s2.2 || decide (0 < c)) := by
    unfold tbN
    rw [hp]
    dsimp only
    rw [hq]
  rw [e] at h ⊢
  have many : ∀ {α : Type} {C : Cod α}, C.Good → (tkMany C c s2).2.2 = false → (tkMany C c s2).1.length = c ∧ ∀ x ∈ (tkMany C c s2).1, C.ok x := by
    intro α C hC hf
    obtain ⟨l2, b2⟩ := s2
    cases b2 with
    | false => have := many_fwd hC c l2 hf; exact ⟨this.1, this.2.1⟩
    | true =>
      have : ∀ n (s : S), s.2 = true → (tkMany C n s).2.2 = true := by
        intro n
        cases n with
        | zero => intro s hs; exact hs
        | succ n => intro s hs; rw [tkMany, if_pos (hC.stay s hs)]; exact hC.stay s hs
      rw [this c _ rfl] at hf
      cases hf
  by_cases h1 : kd = 1
  · rw [if_pos h1] at h ⊢
    obtain ⟨m1, m2⟩ := many cI_good h
    exact ⟨⟨fun x hx => (by cases hx), fun x hx => (by cases hx)⟩, by dsimp only; omega, by dsimp only [List.length_nil]; omega, by dsimp only [List.length_nil]; omega⟩
  · rw [if_neg h1] at h ⊢
    by_cases h2 : kd = 2
    · rw [if_pos h2] at h ⊢
      obtain ⟨m1, m2⟩ := many cK_good h
      exact ⟨⟨fun x hx => ⟨(m2 x hx).2.1, (m2 x hx).2.2⟩, fun x hx => (by cases hx)⟩, by dsimp only [List.length_nil]; omega, by dsimp only; omega, by dsimp only [List.length_nil]; omega⟩
    · rw [if_neg h2] at h ⊢
      by_cases h3 : kd = 3
      · rw [if_pos h3] at h ⊢
        obtain ⟨m1, m2⟩ := many cV_good h
        exact ⟨⟨fun x hx => (by cases hx), fun x hx => ⟨(m2 x hx).2.2.1, (m2 x hx).2.2.2.1, (m2 x hx).2.2.2.2.1, (m2 x hx).2.2.2.2.2⟩⟩, by dsimp only [List.length_nil]; omega, by dsimp only [List.length_nil]; omega, by dsimp only; omega⟩
      · rw [if_neg h3]
        exact ⟨⟨fun x hx => (by cases hx), fun x hx => (by cases hx)⟩, by dsimp only [List.length_nil]; omega, by dsimp only [List.length_nil]; omega, by dsimp only [List.length_nil]; omega⟩
/-- a node that was taken whole is what the document takes -/
theorem tb_tk {l : List UInt8} (h : (tkN l).2 = true) (hk : (tkN l).1.kd = 1 ∨ (tkN l).1.kd = 2 ∨ (tkN l).1.kd = 3) : tbN l = ((tkN l).1, false) := by
  obtain ⟨kd, s1, hp⟩ : ∃ kd s1, tkNum 1 (l, false) = (kd, s1) := ⟨_, _, rfl⟩
  obtain ⟨c, s2, hq⟩ : ∃ c s2, tkNum 1 s1 = (c, s2) := ⟨_, _, rfl⟩
  unfold tkN tbN at *
  rw [hp] at h hk ⊢
  dsimp only at h hk ⊢
  rw [hq] at h hk ⊢
  dsimp only at h hk ⊢
  by_cases h1 : kd = 1
  · rw [if_pos h1] at h ⊢
    rw [if_pos h1]
    simp only [Bool.and_eq_true, Bool.not_eq_true'] at h
    rw [h.1]
  · rw [if_neg h1] at h hk ⊢
    rw [if_neg h1]
    by_cases h2 : kd = 2
    · rw [if_pos h2] at h ⊢
      rw [if_pos h2]
      simp only [Bool.and_eq_true, Bool.not_eq_true'] at h
      rw [h.1]
    · rw [if_neg h2] at h hk ⊢
      rw [if_neg h2]
      by_cases h3 : kd = 3
      · rw [if_pos h3] at h ⊢
        rw [if_pos h3]
        simp only [Bool.and_eq_true, Bool.not_eq_true'] at h
        rw [h.1]
      · rw [if_neg h3] at hk
        dsimp only at hk
        omega
/-- the document's way to read data: what is taken, if it is not bad, and is written as the data -/
theorem dec_way {d : List UInt8} (hd : d.length ≤ 512) : decN d = if (tbN ((fillz d 512).drop 4)).2 = false ∧ ckN (tbN ((fillz d 512).drop 4)).1 = 0 ∧ encN (tbN ((fillz d 512).drop 4)).1 = d then some (tbN ((fillz d 512).drop 4)).1 else none := by
  by_cases h : (tbN ((fillz d 512).drop 4)).2 = false ∧ ckN (tbN ((fillz d 512).drop 4)).1 = 0 ∧ encN (tbN ((fillz d 512).drop 4)).1 = d
  · rw [if_pos h]
    have := dec_enc (tb_few h.1).1 h.2.1
    rwa [h.2.2] at this
  · rw [if_neg h]
    cases hn : decN d with
    | none => rfl
    | some n =>
      exfalso
      apply h
      obtain ⟨h1, h2, h3⟩ := enc_dec hn
      unfold decN at hn
      split at hn
      · cases hn
      · rename_i w hw
        have e : w = (fillz d 512).drop 4 := by
          unfold openL at hw
          split at hw
          · cases hw
          · split at hw
            · exact (Option.some.inj hw).symm
            · cases hw
        subst e
        split at hn
        · rename_i hc
          cases hn
          rw [tb_tk hc.1 (rt_kd (Nd.ck_zero.1 hc.2).1)]
          exact ⟨rfl, h1, h3⟩
        · cases hn
theorem own_go {w w' w'' : World} {cs : Array Value} {n : Nd} (h : NdOwn w w' cs n) (hb : Below w'.heap.size w' w'') : NdOwn w w'' cs n := by
  obtain ⟨vI, vK, vV, rfl, mI, mK, mV⟩ := h
  exact ⟨vI, vK, vV, rfl, mI.go hb, mK.go hb, mV.go hb⟩
theorem own_put {w w' : World} {cs ds Z : Array Value} {n : Nd} {r : Nat} (h : NdOwn w w' cs n) (hr : w'.heap[r]? = some (.cells Z 27 (0, 0))) (h0 : w.heap.size ≤ r) : NdOwn w (w'.setRow r ds) cs n := by
  obtain ⟨vI, vK, vV, rfl, mI, mK, mV⟩ := h
  have hs := grown_setRow w' r ds
  exact ⟨vI, vK, vV, rfl, mI.grownQ hs h0 (mI.off hr (by decide)), mK.grownQ hs h0 (mK.off hr (by decide)), mV.grownQ hs h0 (mV.off hr (by decide))⟩
theorem own_since {w0 w w' : World} {cs : Array Value} {n : Nd} (h : NdOwn w w' cs n) (hb : Below w0.heap.size w0 w) : NdOwn w0 w' cs n := by
  obtain ⟨vI, vK, vV, rfl, mI, mK, mV⟩ := h
  exact ⟨vI, vK, vV, rfl, mI.since hb, mK.since hb, mV.since hb⟩
theorem below_put {w w' : World} {r : Nat} (h : Below w.heap.size w w') (h0 : w.heap.size ≤ r) (cs : Array Value) : Below w.heap.size w (w'.setRow r cs) :=
  h.grown (grown_setRow w' r cs) h.size (fun k hk => by cases hk; exact h0)
theorem ne_strN {x y : ByteArray} (h : x ≠ y) : (x.toList != y.toList) = true ∧ (x.toList == y.toList) = false := by
  have e : (x.toList == y.toList) = false := by
    rw [beq_eq_false_iff_ne, ByteArray.toList_eq, ByteArray.toList_eq]
    exact fun e => h (ByteArray.ext (Array.toList_inj.1 e))
  exact ⟨by rw [bne, e]; rfl, e⟩
theorem decN_big {d : List UInt8} (h : 512 < d.length) : decN d = none := by
  unfold decN openL
  rw [if_pos (.inl h)]
theorem zN_one : (zN : Array Value).all (·.oneCell') = true := four_cells _ _ _ _ rfl rfl rfl rfl
set_option maxRecDepth 100000 in
set_option maxHeartbeats 8000000 in
theorem rdecodeN_any (d : ByteArray) (hd : d.size ≤ 9223372036854775807) (w : World) : Calls Tryz.prog 7 #[.string d] w (DePost d w) := by
  have R0 := Lib.hid (heap_alloc_new w (.cells zN 27))
  have B0 := Lib.hid ((Below.refl w.heap.size w).alloc (Nat.le_refl _) (.cells zN 27))
  have hl : d.data.toList.length = d.size := by rw [Array.length_toList]; rfl
  by_cases hbig : 512 < d.size
  · have HN := Lib.hid (decN_big (d := d.data.toList) (by omega))
    have q : decide ((512 : Int) < (d.size : Int)) = true := by simp; omega
    have R4 := Lib.hid (setRow_heap' (cs := zN) R0.out)
    have B4 := Lib.hid (below_put B0.out (Nat.le_refl _) zN)
    clear hbig hl
    go_enter Tryz.func7, Tryz.ntmps7
    go_wp2_with (refine wpList_store_row rfl 27 (.tmp 2) (.tmp 11) rfl w.heap.size zN rfl rfl 27 zN R0.out infoN4 rfl zN_one ?_)
    refine bodyPost_ret (v := .tuple #[.agg zN, .int .i64 9]) (results_row2 rfl _ _ w.heap.size 27 zN (0, 0) _ rfl R4.out Tryz.underlying27 rfl infoN4 _ rfl) rfl ?_
    exact de_none HN.out rfl B4.out
  have q : decide ((512 : Int) < (d.size : Int)) = false := by simp; omega
  have HW := Lib.hid (dec_way (d := d.data.toList) (by omega))
  have hxl : (fillz d.data.toList 512).length = 512 := fillz_len (by omega)
  have hxz : (bs (fillz d.data.toList 512)).size = 512 := by rw [bs_size]; exact hxl
  have h508 : ((fillz d.data.toList 512).drop 4).length = 508 := by rw [List.length_drop, hxl]
  have hr0 : (bs (fillz d.data.toList 512)).extract 4 512 = bs ((fillz d.data.toList 512).drop 4) := by
    have := extract_bs (bs (fillz d.data.toList 512)) 4
    rwa [hxz, bs_data] at this
  have HFI := Lib.hid (fun w => rfilled_any d (by omega) w)
  generalize (fillz d.data.toList 512).drop 4 = l0 at *
  generalize bs (fillz d.data.toList 512) = X at *
  have H508 := Lib.hid h508
  have HR0 := Lib.hid hr0
  clear h508 hr0 hxl hl hbig
  go_enter Tryz.func7, Tryz.ntmps7
  go_wp2_with fail
  generalize w.alloc _ = W at *
  refine (HFI.out _).mono ?_
  rintro e w1 ⟨rfl, hb⟩
  have R1 := Lib.hid ((hb.block _ (row_lt R0.out)).trans R0.out)
  have B1 := Lib.hid (B0.out.trans (hb.mono B0.out.size))
  have l1 := row_lt R1.out
  clear hb R0 B0 HFI
  have hx6 : (4 : Int) ≤ (X.size : Int) := by omega
  have hx0 : X.extract 4 512 = bs l0 := HR0.out
  have hx512 : X.size = 512 := hxz
  have hal : Below w1.heap.size w1 (w1.alloc (.cells #[.string (bs l0), .bool false] 50)) := (Below.refl _ _).alloc (Nat.le_refl _) _
  have HBG := Lib.hid (show BagR (w1.alloc (.cells #[.string (bs l0), .bool false] 50)) w1.heap.size (l0, false) from ⟨bs l0, heap_alloc_new w1 _, by rw [bs_size, H508.out]; omega, fun _ => rfl⟩)
  have HAL := Lib.hid hal
  clear hal l1
  go_wp2_with fail
  generalize w1.alloc _ = w2 at *
  clear hx0 hx6 hx512 hxz
  refine (take_R w1 l0 (by rw [H508.out]; decide) w1.heap.size (Nat.le_refl _) w2 HAL.out HBG.out).mono ?_
  rintro e w3 ⟨cs, SB, rfl, hbag, hbel, hsz, hone, hown⟩
  obtain ⟨bad, hbd⟩ : ∃ b, (tbN l0).2 = b := ⟨_, rfl⟩
  obtain ⟨n, hnd⟩ : ∃ n, (tbN l0).1 = n := ⟨_, rfl⟩
  have HF := Lib.hid (fun h : (tbN l0).2 = false => tb_few h)
  rw [hbd] at hbag hown HW HF
  rw [hnd] at hown HW HF
  have HBAG := Lib.hid hbag
  have HSZ := Lib.hid hsz
  have HONE := Lib.hid hone
  have HOWN := Lib.hid hown
  have HI := Lib.hid (show (Tryz.prog.info? 27).map (·.size) = some cs.size by rw [hsz]; exact infoN4)
  have HZ4 := Lib.hid (show (zN : Array Value).size = cs.size by rw [hsz]; rfl)
  have R3 := Lib.hid ((hbel.block _ (row_lt R1.out)).trans R1.out)
  have B3 := Lib.hid (B1.out.trans (hbel.mono B1.out.size))
  have HB1 := Lib.hid B1.out
  clear hbag hsz hone hown hbel hbd hnd HBG H508 HR0 R1 B1
  generalize w1.heap.size = g at *
  cases bad
  · have hf := HF.out rfl
    obtain ⟨hw, k1, k2, k3⟩ := hf
    have HEN := Lib.hid (fun w h => rencodeN_any n hw cs w h)
    have HOW := Lib.hid (own_since (HOWN.out rfl) HB1.out)
    go_wp2_with (first
      | (refine wpList_fresh rfl 27 (.tmp 5) (.tmp 18) rfl cs _ 27 rfl rfl HI.out HZ4.out HONE.out ?_; intro w4 hb hrow hz4; have R4 := Lib.hid ((hb.block _ (row_lt R3.out)).trans R3.out); have Q4 := Lib.hid hrow; have B4 := Lib.hid (B3.out.trans (hb.mono B3.out.size)); have c1 : w4.cell? ⟨g, 1, none⟩ = some (.bool false) := (HBAG.out.below hb).c1; have HO4 := Lib.hid (own_go HOW.out hb); clear hb hrow hz4 R3 B3)
      | (refine wpList_load_row rfl 27 (.tmp 5) rfl w3.heap.size rfl 27 cs (0, 0) _ Q4.out Tryz.underlying27 rfl HI.out ?_))
    refine (HEN.out _ (HO4.out.at_ (by omega) (by omega) (by omega))).mono ?_
    rintro e w5 ⟨rfl, hb⟩
    have R5 := Lib.hid ((hb.block _ (row_lt R4.out)).trans R4.out)
    have Q5 := Lib.hid ((hb.block _ (row_lt Q4.out)).trans Q4.out)
    have B5 := Lib.hid (B4.out.trans (hb.mono B4.out.size))
    have HO5 := Lib.hid (own_go HO4.out hb)
    have RA := Lib.hid (setRow_heap' (cs := zN) R5.out)
    have RB := Lib.hid (setRow_heap' (cs := cs) R5.out)
    have BA := Lib.hid (below_put B5.out (Nat.le_refl _) zN)
    have HOB := Lib.hid (own_put (ds := cs) HO5.out R5.out (Nat.le_refl _))
    clear hb R4 Q4 B4 HO4 HEN c1 hw k1 k2 k3
    by_cases hok : ckN n = 0
    · have HE := Lib.hid (show encB n = bs (encN n) from if_pos hok)
      rw [HE.out, hok]
      by_cases hsame : encN n = d.data.toList
      · have HD := Lib.hid (show decN d.data.toList = some n by rw [HW.out, if_pos ⟨by trivial, hok, hsame⟩])
        have hx : bs (encN n) = d := by rw [hsame, data_bs]
        rw [hx]
        have s1 : (d.toList != d.toList) = false := by rw [bne, beq_self_eq_true]; rfl
        clear hok hsame hx HW HE
        go_wp2_with (first
          | (refine wpList_load_row rfl 27 (.tmp 5) rfl w3.heap.size rfl 27 cs (0, 0) _ Q5.out Tryz.underlying27 rfl HI.out ?_)
          | (refine wpList_store_row rfl 27 (.tmp 2) (.tmp 37) rfl w.heap.size cs rfl rfl 27 zN R5.out HI.out HZ4.out HONE.out ?_))
        refine bodyPost_ret (v := .tuple #[.agg cs, .int .i64 0]) (results_row2 rfl _ _ w.heap.size 27 cs (0, 0) _ rfl RB.out Tryz.underlying27 rfl HI.out _ rfl) rfl ?_
        exact de_some HD.out rfl HOB.out
      · have HD := Lib.hid (show decN d.data.toList = none by rw [HW.out, if_neg (fun h => hsame h.2.2)])
        obtain ⟨s1, s2⟩ := ne_strN (show bs (encN n) ≠ d from fun e => hsame (by rw [← e, bs_data]))
        generalize bs (encN n) = y at *
        clear hok hsame HW HE
        go_wp2_with (refine wpList_store_row rfl 27 (.tmp 2) (.tmp 36) rfl w.heap.size zN rfl rfl 27 zN R5.out infoN4 rfl zN_one ?_)
        refine bodyPost_ret (v := .tuple #[.agg zN, .int .i64 9]) (results_row2 rfl _ _ w.heap.size 27 zN (0, 0) _ rfl RA.out Tryz.underlying27 rfl infoN4 _ rfl) rfl ?_
        exact de_none HD.out rfl BA.out
    · have HD := Lib.hid (show decN d.data.toList = none by rw [HW.out, if_neg (fun h => hok h.2.1)])
      have k0 : (ckN n != 0) = true := by rw [bne_iff_ne]; exact hok
      generalize encB n = y at *
      generalize ckN n = c at *
      clear HW
      go_wp2_with (refine wpList_store_row rfl 27 (.tmp 2) (.tmp 36) rfl w.heap.size zN rfl rfl 27 zN R5.out infoN4 rfl zN_one ?_)
      refine bodyPost_ret (v := .tuple #[.agg zN, .int .i64 9]) (results_row2 rfl _ _ w.heap.size 27 zN (0, 0) _ rfl RA.out Tryz.underlying27 rfl infoN4 _ rfl) rfl ?_
      exact de_none HD.out rfl BA.out
  · have HD := Lib.hid (show decN d.data.toList = none by rw [HW.out, if_neg (fun h => by cases h.1)])
    clear HW HOWN HF
    have R4' := Lib.hid (fun (w4 : World) (h : w4.heap[w.heap.size]? = some (.cells zN 27 (0, 0))) => setRow_heap' (cs := zN) h)
    go_wp2_with (first
      | (refine wpList_fresh rfl 27 (.tmp 5) (.tmp 18) rfl cs _ 27 rfl rfl HI.out HZ4.out HONE.out ?_; intro w4 hb hrow hz4; have R4 := Lib.hid ((hb.block _ (row_lt R3.out)).trans R3.out); have B4 := Lib.hid (B3.out.trans (hb.mono B3.out.size)); have c1 : w4.cell? ⟨g, 1, none⟩ = some (.bool true) := (HBAG.out.below hb).c1; have RA := Lib.hid (setRow_heap' (cs := zN) R4.out); have BA := Lib.hid (below_put B4.out (Nat.le_refl _) zN); clear hb hrow hz4 R3 B3)
      | (refine wpList_store_row rfl 27 (.tmp 2) (.tmp 23) rfl w.heap.size zN rfl rfl 27 zN R4.out infoN4 rfl zN_one ?_))
    refine bodyPost_ret (v := .tuple #[.agg zN, .int .i64 9]) (results_row2 rfl _ _ w.heap.size 27 zN (0, 0) _ rfl RA.out Tryz.underlying27 rfl infoN4 _ rfl) rfl ?_
    exact de_none HD.out rfl BA.out
end Go.Proofs.YtnfcgifkghegjaaGreatDoor.Nr
/- Contracts of package node's Named, Kids. -/
namespace Go.Proofs.YtnfcgifkghegjaaGreatDoor.Nd
set_option linter.unusedVariables false
set_option linter.unusedSimpArgs false
open Go.ChangeShapes Go.WideShapes Go.ChangeAt Go.RowKit
open Ar Rg
open BigFrame
open Pk (be num be_length u8s u8s_length)
open It (str_le below_drewN)
def nmK (x : Kd) : Kd := ⟨⟨#[]⟩, x.n, x.hs⟩
def nmV (x : Vo) : Kd := ⟨⟨#[]⟩, x.rt, x.hs⟩
def isV (x : Vo) : Bool := decide (x.rt ≠ 0)
/-- where a node leads -/
def nmN (n : Nd) : List Kd := if n.kd = 2 then n.K.map nmK else if n.kd = 3 then (n.V.filter isV).map nmV else []
theorem kid_built (y : Kd) (hk : y.k = ⟨#[]⟩) (hl : y.hs.length = 32) : List.foldl (fun (cs : Array Value) (x : Value × Nat) => cs.setIfInBounds (2 + x.snd) x.fst) #[.string ⟨#[]⟩, .int .u32 (y.n : Int), .int .u8 0, .int .u8 0, .int .u8 0, .int .u8 0, .int .u8 0, .int .u8 0, .int .u8 0, .int .u8 0, .int .u8 0, .int .u8 0, .int .u8 0, .int .u8 0, .int .u8 0, .int .u8 0, .int .u8 0, .int .u8 0, .int .u8 0, .int .u8 0, .int .u8 0, .int .u8 0, .int .u8 0, .int .u8 0, .int .u8 0, .int .u8 0, .int .u8 0, .int .u8 0, .int .u8 0, .int .u8 0, .int .u8 0, .int .u8 0, .int .u8 0, .int .u8 0] (u8s y.hs).zipIdx = (ecK y).toArray := by
  have := fold_put (u8s y.hs) (zH.toList) [.string ⟨#[]⟩, .int .u32 (y.n : Int)] 2 0 (by rw [u8s_length, hl]; rfl) rfl
  unfold ecK
  rw [fix_of hl, hk]
  exact this
theorem map_snoc {α β : Type} (f : α → β) {D : List α} {i : Nat} {x : α} (h : D[i]? = some x) : (D.take (i + 1)).map f = (D.take i).map f ++ [f x] := by
  obtain ⟨hk, e⟩ := List.getElem?_eq_some_iff.1 h
  rw [List.take_succ_eq_append_getElem hk, e, List.map_append]; rfl
theorem filt_snoc {D : List Vo} {i : Nat} {x : Vo} (h : D[i]? = some x) : ((D.take (i + 1)).filter isV).map nmV = ((D.take i).filter isV).map nmV ++ (if isV x then [nmV x] else []) := by
  obtain ⟨hk, e⟩ := List.getElem?_eq_some_iff.1 h
  rw [List.take_succ_eq_append_getElem hk, e, List.filter_append, List.map_append]
  congr 1
  by_cases hx : isV x = true
  · simp [List.filter_cons, hx]
  · simp [List.filter_cons, hx]
theorem arr_info (l : List UInt8) (h : l.length = 32) : (Tryz.prog.info? 53).map (·.size) = some (u8s l).length := by rw [u8s_length, h]; kernel_rfl
set_option maxRecDepth 100000 in
set_option maxHeartbeats 8000000 in
theorem named_any (n : Nd) (hw : Wd n) (hs1 : n.K.length ≤ 2513169434915) (hs2 : n.V.length ≤ 2513169434915) (cs : Array Value) (w : World) (hn : NdAt w cs n) :
    Calls Tryz.prog 24 #[.agg cs] w fun e w' => ∃ v, e = .returned v ∧ MkK w w' v (nmN n) := by
  obtain ⟨AI, nI, dI, AK, nK, dK, AV, nV, dV, rfl, hI, hK, hV, bI, bK, bV, lI, lK, lV⟩ := hn
  obtain ⟨kd, I, K, V⟩ := n
  obtain ⟨wK, wV⟩ := hw
  dsimp only at hI hK hV lI lK lV wK wV hs1 hs2 ⊢
  have HB0 := Lib.hid (show Below w.heap.size w (w.alloc (.cells #[.int .u8 (kd : Int), .slice AI nI dI, .slice AK nK dK, .slice AV nV dV] 27)) from (Below.refl _ _).alloc (Nat.le_refl _) _)
  by_cases h2 : kd = 2
  · have q2 : ((kd : Int) == 2) = true := by rw [h2]; rfl
    have HX := Lib.hid (show nmN ⟨kd, I, K, V⟩ = K.map nmK by unfold nmN; rw [if_pos h2])
    have HWX := Lib.hid (show ∀ x ∈ K, x.hs.length = 32 from fun x hx => (wK x hx).2)
    have HSM := Lib.hid (show nK ≤ 2513169434915 by rw [hK]; exact hs1)
    have HK := Lib.hid hK
    have HLX := Lib.hid lK
    clear h2 hI hK hV lI lK lV wK wV hs1 hs2
    go_enter Tryz.func24, Tryz.ntmps24
    go_wp2_with fail
    generalize w.alloc _ = w0 at *
    go_loopw [3, 15] (fun av v wr => ∃ (i : Nat) (D : List Kd), i ≤ nK ∧ v = .int .i64 i ∧ Hid (D = (K.take i).map nmK) ∧ Hid (D.length ≤ i) ∧ Hid (MkK w wr av D)) (fun _ v _ => nK - (intOf v).toNat)
    case atStart => exact ⟨0, [], Nat.zero_le _, by go_num, rfl, Nat.le_refl _, Mk.nil HB0.out⟩
    case round =>
      obtain ⟨i, D, hi, rfl, hD, hDl, hmk⟩ := hrel
      by_cases hlt : i < nK
      · obtain ⟨x, hx⟩ : ∃ x, K[i]? = some x := ⟨_, List.getElem?_eq_getElem (by rw [← HK.out]; exact hlt)⟩
        have HXL := Lib.hid (HWX.out x (List.mem_of_getElem? hx))
        have HDL := Lib.hid (show D.length ≤ 2513169434915 by have h := Hid.out hDl; have := HSM.out; omega)
        obtain ⟨b, o, hAe, hb, hr⟩ := (HLX.out.below (Hid.out hmk).2) i x hx
        have hbs : b < wr.heap.size := Nat.lt_of_lt_of_le hb (Hid.out hmk).2.size
        have HRG := Lib.hid hr
        have HM := Lib.hid (Hid.out hmk)
        have HAI := Lib.hid (arr_info x.hs HXL.out)
        have HXX := Lib.hid hx
        obtain ⟨y, hy⟩ : ∃ y, nmK x = y := ⟨_, rfl⟩
        have hb1 := kid_built y (by rw [← hy]; rfl) (by rw [← hy]; exact HXL.out)
        rw [show y.n = x.n by rw [← hy]; rfl, show y.hs = x.hs by rw [← hy]; rfl] at hb1
        have HY := Lib.hid hy
        have hz1 : (u8s x.hs).length = 32 := by rw [u8s_length, HXL.out]
        have hz2 : x.hs.length = 32 := HXL.out
        clear hr hx hmk hy
        subst hAe
        have HDN := Lib.hid (show D ++ [y] = (K.take (i + 1)).map nmK by rw [map_snoc nmK HXX.out, ← Hid.out hD, HY.out])
        have HLN := Lib.hid (show (D ++ [y]).length ≤ i + 1 by rw [List.length_append]; have h := Hid.out hDl; simp; exact h)
        go_wp2_with (first
          | (refine wpList_load_at rfl 55 (.tmp 17) rfl b (o + i * 34) rfl (ecK x) _ HRG.out Tryz.underlying55 rfl (infoKs x) ?_)
          | (refine wpList_fresh rfl 55 (.tmp 5) (.tmp 18) rfl (ecK x).toArray _ _ rfl rfl (infoKa x) (ecK_sz x) (all_of_one (ecK_one x)) ?_; intro W hb1 hr1 hz1; have HM1 := Lib.hid (HM.out.go hb1); have c0 : W.cell? ⟨wr.heap.size, 1, none⟩ = some (.int .u32 x.n) := cell_of_row _ _ 1 _ _ _ hr1; have HRH := Lib.hid (show W.rangeAt wr.heap.size 2 (u8s x.hs) from rangeAt_row hr1 (fun a v hv => by unfold ecK; rw [fix_of HXL.out, List.getElem?_toArray, Nat.add_comm 2 a]; exact hv)); clear hr1 hz1 hb1 HM HRG)
          | (refine wpList_load_at rfl 53 (.tmp 22) rfl wr.heap.size 2 rfl (u8s x.hs) _ HRH.out Tryz.underlying53 rfl HAI.out ?_)
          | (refine wpList_plain rfl (fun K1 hK1 => op_oneK (.tmp 24) y rfl rfl (hK1 _ _ ?_)); have hal : Below W.heap.size W (W.alloc (.cells (ecK y).toArray 55)) := (Below.refl _ _).alloc (Nat.le_refl _) _; have HM2 := Lib.hid (HM1.out.go hal); have HX2 := Lib.hid (heap_alloc_new W (.cells (ecK y).toArray 55)); clear hal HM1)
          | (refine wpList_plain rfl (fun K1 hK1 => op_catK HM2.out y W.heap.size 1 HX2.out (by have := HDL.out; omega) (.tmp 19) (.tmp 25) rfl rfl rfl (fun v5 w5 hm5 hg5 hat5 => hK1 _ _ ?_)); obtain ⟨A5, n5, c5, rfl⟩ : ∃ A n c, v5 = .slice A n c := (by obtain ⟨A, c, h, _⟩ := hm5.ls ecK_len; exact ⟨A, _, c, h⟩); have HM5 := Lib.hid hm5; clear hm5 hg5 hat5))
        exact ⟨⟨i + 1, D ++ [y], by omega, by go_num, HDN.out, HLN.out, HM5.out⟩, by simp [intOf] <;> omega⟩
      · have HE := Lib.hid (show D = (K).map nmK by have h := Hid.out hD; rwa [List.take_of_length_le (by rw [← HK.out]; omega)] at h)
        have HM := Lib.hid (Hid.out hmk)
        clear hD hmk
        go_wp2
        go_ret
        exact ⟨_, rfl, by rw [HX.out, ← HE.out]; exact HM.out⟩
  · have q2 : ((kd : Int) == 2) = false := by rw [beq_eq_false_iff_ne]; omega
    by_cases h3 : kd = 3
    · have q3 : ((kd : Int) == 3) = true := by rw [h3]; rfl
      have HX := Lib.hid (show nmN ⟨kd, I, K, V⟩ = (V.filter isV).map nmV by unfold nmN; rw [if_neg h2, if_pos h3])
      have HWX := Lib.hid (show ∀ x ∈ V, x.hs.length = 32 from fun x hx => (wV x hx).2.2.2)
      have HSM := Lib.hid (show nV ≤ 2513169434915 by rw [hV]; exact hs2)
      have HV := Lib.hid hV
      have HLX := Lib.hid lV
      clear h2 h3 hI hK hV lI lK lV wK wV hs1 hs2
      go_enter Tryz.func24, Tryz.ntmps24
      go_wp2_with fail
      generalize w.alloc _ = w0 at *
      go_loopw [3, 33] (fun av v wr => ∃ (i : Nat) (D : List Kd), i ≤ nV ∧ v = .int .i64 i ∧ Hid (D = ((V.take i).filter isV).map nmV) ∧ Hid (D.length ≤ i) ∧ Hid (MkK w wr av D)) (fun _ v _ => nV - (intOf v).toNat)
      case atStart => exact ⟨0, [], Nat.zero_le _, by go_num, rfl, Nat.le_refl _, Mk.nil HB0.out⟩
      case round =>
        obtain ⟨i, D, hi, rfl, hD, hDl, hmk⟩ := hrel
        by_cases hlt : i < nV
        · obtain ⟨x, hx⟩ : ∃ x, V[i]? = some x := ⟨_, List.getElem?_eq_getElem (by rw [← HV.out]; exact hlt)⟩
          have HXL := Lib.hid (HWX.out x (List.mem_of_getElem? hx))
          have HDL := Lib.hid (show D.length ≤ 2513169434915 by have h := Hid.out hDl; have := HSM.out; omega)
          obtain ⟨b, o, hAe, hb, hr⟩ := (HLX.out.below (Hid.out hmk).2) i x hx
          have hbs : b < wr.heap.size := Nat.lt_of_lt_of_le hb (Hid.out hmk).2.size
          have HRG := Lib.hid hr
          have HM := Lib.hid (Hid.out hmk)
          have HAI := Lib.hid (arr_info x.hs HXL.out)
          have HXX := Lib.hid hx
          obtain ⟨y, hy⟩ : ∃ y, nmV x = y := ⟨_, rfl⟩
          have hb1 := kid_built y (by rw [← hy]; rfl) (by rw [← hy]; exact HXL.out)
          rw [show y.n = x.rt by rw [← hy]; rfl, show y.hs = x.hs by rw [← hy]; rfl] at hb1
          have HY := Lib.hid hy
          have hz1 : (u8s x.hs).length = 32 := by rw [u8s_length, HXL.out]
          have hz2 : x.hs.length = 32 := HXL.out
          clear hr hx hmk hy
          subst hAe
          by_cases hv0 : x.rt = 0
          · have qv : ((x.rt : Int) != 0) = false := by rw [hv0]; rfl
            have HDN := Lib.hid (show D = ((V.take (i + 1)).filter isV).map nmV by rw [filt_snoc HXX.out, if_neg (by simp [isV, hv0]), List.append_nil]; exact Hid.out hD)
            have HLN := Lib.hid (show D.length ≤ i + 1 from Nat.le_succ_of_le (Hid.out hDl))
            clear hv0
            go_wp2_with (first
              | (refine wpList_load_at rfl 59 (.tmp 35) rfl b (o + i * 37) rfl (ecV x) _ HRG.out Tryz.underlying59 rfl (infoVs x) ?_)
              | (refine wpList_fresh rfl 59 (.tmp 7) (.tmp 36) rfl (ecV x).toArray _ _ rfl rfl (infoVa x) (ecV_sz x) (all_of_one (ecV_one x)) ?_; intro W hb1 hr1 hz1; have HM1 := Lib.hid (HM.out.go hb1); have c0 : W.cell? ⟨wr.heap.size, 4, none⟩ = some (.int .u32 x.rt) := cell_of_row _ _ 4 _ _ _ hr1; have HRH := Lib.hid (show W.rangeAt wr.heap.size 5 (u8s x.hs) from rangeAt_row hr1 (fun a v hv => by unfold ecV; rw [fix_of HXL.out, List.getElem?_toArray, Nat.add_comm 5 a]; exact hv)); clear hr1 hz1 hb1 HM HRG))
            exact ⟨⟨i + 1, D, by omega, by go_num, HDN.out, HLN.out, HM1.out⟩, by simp [intOf] <;> omega⟩
          · have qv : ((x.rt : Int) != 0) = true := by rw [bne_iff_ne]; omega
            have HDN := Lib.hid (show D ++ [y] = ((V.take (i + 1)).filter isV).map nmV by rw [filt_snoc HXX.out, if_pos (by simp [isV, hv0]), ← Hid.out hD, HY.out])
            have HLN := Lib.hid (show (D ++ [y]).length ≤ i + 1 by rw [List.length_append]; have h := Hid.out hDl; simp; exact h)
            clear hv0
            go_wp2_with (first
              | (refine wpList_load_at rfl 59 (.tmp 35) rfl b (o + i * 37) rfl (ecV x) _ HRG.out Tryz.underlying59 rfl (infoVs x) ?_)
              | (refine wpList_fresh rfl 59 (.tmp 7) (.tmp 36) rfl (ecV x).toArray _ _ rfl rfl (infoVa x) (ecV_sz x) (all_of_one (ecV_one x)) ?_; intro W hb1 hr1 hz1; have HM1 := Lib.hid (HM.out.go hb1); have c0 : W.cell? ⟨wr.heap.size, 4, none⟩ = some (.int .u32 x.rt) := cell_of_row _ _ 4 _ _ _ hr1; have HRH := Lib.hid (show W.rangeAt wr.heap.size 5 (u8s x.hs) from rangeAt_row hr1 (fun a v hv => by unfold ecV; rw [fix_of HXL.out, List.getElem?_toArray, Nat.add_comm 5 a]; exact hv)); clear hr1 hz1 hb1 HM HRG)
              | (refine wpList_load_at rfl 53 (.tmp 43) rfl wr.heap.size 5 rfl (u8s x.hs) _ HRH.out Tryz.underlying53 rfl HAI.out ?_)
              | (refine wpList_plain rfl (fun K1 hK1 => op_oneK (.tmp 45) y rfl rfl (hK1 _ _ ?_)); have hal : Below W.heap.size W (W.alloc (.cells (ecK y).toArray 55)) := (Below.refl _ _).alloc (Nat.le_refl _) _; have HM2 := Lib.hid (HM1.out.go hal); have HX2 := Lib.hid (heap_alloc_new W (.cells (ecK y).toArray 55)); clear hal HM1)
              | (refine wpList_plain rfl (fun K1 hK1 => op_catK HM2.out y W.heap.size 1 HX2.out (by have := HDL.out; omega) (.tmp 40) (.tmp 46) rfl rfl rfl (fun v5 w5 hm5 hg5 hat5 => hK1 _ _ ?_)); obtain ⟨A5, n5, c5, rfl⟩ : ∃ A n c, v5 = .slice A n c := (by obtain ⟨A, c, h, _⟩ := hm5.ls ecK_len; exact ⟨A, _, c, h⟩); have HM5 := Lib.hid hm5; clear hm5 hg5 hat5))
            exact ⟨⟨i + 1, D ++ [y], by omega, by go_num, HDN.out, HLN.out, HM5.out⟩, by simp [intOf] <;> omega⟩
        · have HE := Lib.hid (show D = ((V).filter isV).map nmV by have h := Hid.out hD; rwa [List.take_of_length_le (by rw [← HV.out]; omega)] at h)
          have HM := Lib.hid (Hid.out hmk)
          clear hD hmk
          go_wp2
          go_ret
          exact ⟨_, rfl, by rw [HX.out, ← HE.out]; exact HM.out⟩
    · have q3 : ((kd : Int) == 3) = false := by rw [beq_eq_false_iff_ne]; omega
      have HX := Lib.hid (show nmN ⟨kd, I, K, V⟩ = [] by unfold nmN; rw [if_neg h2, if_neg h3])
      clear h2 h3 hI hK hV lI lK lV wK wV hs1 hs2
      go_enter Tryz.func24, Tryz.ntmps24
      go_wp2
      go_ret
      exact ⟨_, rfl, by rw [HX.out]; exact Mk.nil HB0.out⟩
theorem nmN_len (n : Nd) (h1 : n.K.length ≤ 2513169434915) (h2 : n.V.length ≤ 2513169434915) : (nmN n).length ≤ 2513169434915 := by
  unfold nmN
  split
  · rw [List.length_map]; exact h1
  · split
    · rw [List.length_map]; exact Nat.le_trans (List.length_filter_le _ _) h2
    · exact Nat.zero_le _
/-- a node's kids, by number -/
def kdN (n : Nd) : List Nat := (nmN n).map (·.n)
set_option maxRecDepth 100000 in
set_option maxHeartbeats 4000000 in
theorem kids_any (n : Nd) (hw : Wd n) (hs1 : n.K.length ≤ 2513169434915) (hs2 : n.V.length ≤ 2513169434915) (cs : Array Value) (w : World) (hn : NdAt w cs n) :
    Calls Tryz.prog 8 #[.agg cs] w fun e w' => ∃ v, e = .returned v ∧ MkU w w' v (kdN n) := by
  have HI := Lib.hid (info4 hn.size)
  have HB0 := Lib.hid (show Below w.heap.size w (w.alloc (.cells cs 27)) from (Below.refl _ _).alloc (Nat.le_refl _) _)
  have HR0 := Lib.hid (heap_alloc_new w (.cells cs 27))
  have HC := Lib.hid (fun w' (hb : Below w.heap.size w w') => named_any n hw hs1 hs2 cs w' (hn.below hb))
  have HLN := Lib.hid (nmN_len n hs1 hs2)
  unfold kdN
  generalize nmN n = D at *
  clear hn hs1 hs2 hw
  go_enter Tryz.func8, Tryz.ntmps8
  go_wp2_with (first
    | (refine wpList_load_row rfl 27 (.tmp 1) rfl w.heap.size rfl 27 cs (0, 0) _ HR0.out Tryz.underlying27 rfl HI.out ?_)
    | (go_at_call 24; refine (HC.out _ HB0.out).mono ?_; rintro e w3 ⟨v3, rfl, hm3⟩; have HM3 := Lib.hid hm3; have HB3 := Lib.hid (HB0.out.trans (hm3.2.mono HB0.out.size)); obtain ⟨A3, n3, c3, rfl, hn3, hl3⟩ : ∃ A n c, v3 = .slice A n c ∧ n = D.length ∧ Ls ecK 34 w3 w3.heap.size A D := (by obtain ⟨A, c, h, _, _, h2⟩ := hm3.ls ecK_len; exact ⟨A, _, c, h, rfl, h2⟩); have HN3 := Lib.hid hn3; have HL3 := Lib.hid hl3; clear hm3 hn3 hl3))
  have HSM := Lib.hid (show n3 ≤ 2513169434915 by rw [HN3.out]; exact HLN.out)
  have hsm := HSM.out
  go_loopw [3, 9] (fun av v wr => ∃ (i : Nat) (E : List Nat), i ≤ n3 ∧ v = .int .i64 i ∧ Hid (E = (D.take i).map (·.n)) ∧ Hid (E.length ≤ i) ∧ Hid (MkU w3 wr av E)) (fun _ v _ => n3 - (intOf v).toNat)
  case atStart => exact ⟨0, [], Nat.zero_le _, by go_num, rfl, Nat.le_refl _, Mk.nil (Below.refl _ _)⟩
  case round =>
    obtain ⟨i, E, hi, rfl, hE, hEl, hmk⟩ := hrel
    by_cases hlt : i < n3
    · obtain ⟨x, hx⟩ : ∃ x, D[i]? = some x := ⟨_, List.getElem?_eq_getElem (by rw [← HN3.out]; exact hlt)⟩
      have HDL := Lib.hid (show E.length ≤ 2513169434915 by have h := Hid.out hEl; have := HSM.out; omega)
      obtain ⟨b, o, hAe, hb, hr⟩ := (HL3.out.below (Hid.out hmk).2) i x hx
      have hbs : b < wr.heap.size := Nat.lt_of_lt_of_le hb (Hid.out hmk).2.size
      have HRG := Lib.hid hr
      have HM := Lib.hid (Hid.out hmk)
      have HDN := Lib.hid (show E ++ [x.n] = (D.take (i + 1)).map (·.n) by rw [map_snoc (·.n) hx, ← Hid.out hE])
      have HLN2 := Lib.hid (show (E ++ [x.n]).length ≤ i + 1 by rw [List.length_append]; have h := Hid.out hEl; simp; exact h)
      clear hr hmk hx
      subst hAe
      go_wp2_with (first
        | (refine wpList_load_at rfl 55 (.tmp 11) rfl b (o + i * 34) rfl (ecK x) _ HRG.out Tryz.underlying55 rfl (infoKs x) ?_)
        | (refine wpList_fresh rfl 55 (.tmp 5) (.tmp 12) rfl (ecK x).toArray _ _ rfl rfl (infoKa x) (ecK_sz x) (all_of_one (ecK_one x)) ?_; intro W hb1 hr1 hz1; have HM1 := Lib.hid ((HM.out.go hb1).alloc (.cells #[.int .u32 x.n] 39)); have HX2 := Lib.hid (heap_alloc_new W (.cells #[.int .u32 x.n] 39)); have c0 : W.cell? ⟨wr.heap.size, 1, none⟩ = some (.int .u32 x.n) := cell_of_row _ _ 1 _ _ _ hr1; clear hr1 hz1 hb1 HM HRG)
        | (refine wpList_plain rfl (fun K1 hK1 => op_catU HM1.out x.n W.heap.size 1 HX2.out (by have := HDL.out; omega) (.tmp 13) (.tmp 16) rfl rfl rfl (fun v5 w5 hm5 hg5 hat5 => hK1 _ _ ?_)); obtain ⟨A5, n5, c5, rfl⟩ : ∃ A n c, v5 = .slice A n c := (by obtain ⟨A, c, h, _⟩ := hm5.ls (show ∀ x, (enU x).length = 1 from fun _ => rfl); exact ⟨A, _, c, h⟩); have HM5 := Lib.hid hm5; clear hm5 hg5 hat5))
      exact ⟨⟨i + 1, E ++ [x.n], by omega, by go_num, HDN.out, HLN2.out, HM5.out⟩, by simp [intOf] <;> omega⟩
    · have HE := Lib.hid (show E = D.map (·.n) by have h := Hid.out hE; rwa [List.take_of_length_le (by rw [← HN3.out]; omega)] at h)
      have HM := Lib.hid ((Hid.out hmk).since HB3.out)
      clear hE hmk
      go_wp2
      go_ret
      exact ⟨_, rfl, by rw [← HE.out]; exact HM.out⟩
end Go.Proofs.YtnfcgifkghegjaaGreatDoor.Nd
/- The document's own Kids of nodes. -/
namespace Go.Proofs.YtnfcgifkghegjaaGreatDoor.Nr
set_option linter.unusedVariables false
set_option linter.unusedSimpArgs false
open Go.ChangeShapes Go.WideShapes Go.ChangeAt Go.RowKit
open Nd Ar Rg
open BigFrame
theorem map_sn {α β : Type} (f : α → β) {D : List α} {i : Nat} {x : α} (h : D[i]? = some x) : (D.take (i + 1)).map f = (D.take i).map f ++ [f x] := by
  rw [List.take_add_one, h]; simp
theorem filt_sn {D : List Vo} {i : Nat} {x : Vo} (h : D[i]? = some x) : ((D.take (i + 1)).filter isV).map (·.rt) = ((D.take i).filter isV).map (·.rt) ++ (if isV x then [x.rt] else []) := by
  rw [List.take_add_one, h]
  cases hx : isV x <;> simp [hx]
set_option maxRecDepth 100000 in
set_option maxHeartbeats 8000000 in
theorem rkids_any (n : Nd) (hw : Wd n) (hs1 : n.K.length ≤ 2513169434915) (hs2 : n.V.length ≤ 2513169434915) (cs : Array Value) (w : World) (hn : NdAt w cs n) :
    Calls Tryz.prog 9 #[.agg cs] w fun e w' => ∃ v, e = .returned v ∧ MkU w w' v (kdN n) := by
  obtain ⟨AI, nI, cI, AK, nK, cK, AV, nV, cV, rfl, hI, hK, hV, bI, bK, bV, lI, lK, lV⟩ := hn
  obtain ⟨kd, I, K, V⟩ := n
  dsimp only at hI hK hV lI lK lV hs1 hs2
  have HB0 := Lib.hid (show Below w.heap.size w (w.alloc (.cells #[.int .u8 (kd : Int), .slice AI nI cI, .slice AK nK cK, .slice AV nV cV] 27)) from (Below.refl _ _).alloc (Nat.le_refl _) _)
  have HK := Lib.hid hK
  have HV := Lib.hid hV
  have LK := Lib.hid lK
  have LV := Lib.hid lV
  have hk9 : nK ≤ 2513169434915 := by omega
  have hv9 : nV ≤ 2513169434915 := by omega
  clear hI hK hV lI lK lV hw hs1 hs2
  by_cases k2 : kd = 2
  · have q2 : ((kd : Int) == 2) = true := by rw [k2]; rfl
    have q3 : ((kd : Int) == 3) = false := by rw [k2]; rfl
    have HKD := Lib.hid (show kdN ⟨kd, I, K, V⟩ = K.map (·.n) by unfold kdN nmN; rw [if_pos k2, List.map_map]; rfl)
    rw [HKD.out]
    clear k2
    have hc0 : (w.alloc (.cells #[.int .u8 (kd : Int), .slice AI nI cI, .slice AK nK cK, .slice AV nV cV] 27)).cell? ⟨w.heap.size, 0, none⟩ = some (.int .u8 (kd : Int)) := by simp
    have HR0 := Lib.hid (heap_alloc_new w (.cells #[.int .u8 (kd : Int), .slice AI nI cI, .slice AK nK cK, .slice AV nV cV] 27))
    go_enter Tryz.func9, Tryz.ntmps9
    go_wp2_with fail
    clear hc0
    generalize w.alloc _ = w0 at *
    go_loopw [3, 14] (fun av v wr => ∃ (i : Nat) (E : List Nat), i ≤ nK ∧ v = .int .i64 i ∧ Hid (E = (K.take i).map (·.n)) ∧ Hid (E.length ≤ i) ∧ Hid (MkU w0 wr av E)) (fun _ v _ => nK - (intOf v).toNat)
    case atStart => exact ⟨0, [], Nat.zero_le _, by go_num, rfl, Nat.le_refl _, Mk.nil (Below.refl _ _)⟩
    case round =>
      obtain ⟨i, E, hi, rfl, hE, hEl, hmk⟩ := hrel
      by_cases hlt : i < nK
      · obtain ⟨x, hx⟩ : ∃ x, K[i]? = some x := ⟨_, List.getElem?_eq_getElem (by rw [← HK.out]; exact hlt)⟩
        have HDL := Lib.hid (show E.length ≤ 2513169434915 by have h := Hid.out hEl; omega)
        obtain ⟨b, o, hAe, hb, hr⟩ := (LK.out.below (HB0.out.trans ((Hid.out hmk).2.mono HB0.out.size))) i x hx
        have hbs : b < wr.heap.size := Nat.lt_of_lt_of_le hb (Nat.le_trans HB0.out.size (Hid.out hmk).2.size)
        have HRG := Lib.hid hr
        have HM := Lib.hid (Hid.out hmk)
        have HDN := Lib.hid (show E ++ [x.n] = (K.take (i + 1)).map (·.n) by rw [map_sn (·.n) hx, ← Hid.out hE])
        have HLN2 := Lib.hid (show (E ++ [x.n]).length ≤ i + 1 by rw [List.length_append]; have h := Hid.out hEl; simp; exact h)
        clear hr hmk hx
        subst hAe
        go_wp2_with (first
          | (refine wpList_load_at rfl 55 (.tmp 16) rfl b (o + i * 34) rfl (ecK x) _ HRG.out Tryz.underlying55 rfl (infoKs x) ?_)
          | (refine wpList_fresh rfl 55 (.tmp 5) (.tmp 17) rfl (ecK x).toArray _ _ rfl rfl (infoKa x) (ecK_sz x) (all_of_one (ecK_one x)) ?_; intro W hb1 hr1 hz1; have HM1 := Lib.hid ((HM.out.go hb1).alloc (.cells #[.int .u32 x.n] 39)); have HX2 := Lib.hid (heap_alloc_new W (.cells #[.int .u32 x.n] 39)); have c0 : W.cell? ⟨wr.heap.size, 1, none⟩ = some (.int .u32 x.n) := cell_of_row _ _ 1 _ _ _ hr1; clear hr1 hz1 hb1 HM HRG)
          | (refine wpList_plain rfl (fun K1 hK1 => op_catU HM1.out x.n W.heap.size 1 HX2.out (by have := HDL.out; omega) (.tmp 18) (.tmp 21) rfl rfl rfl (fun v5 w5 hm5 hg5 hat5 => hK1 _ _ ?_)); obtain ⟨A5, n5, c5, rfl⟩ : ∃ A n c, v5 = .slice A n c := (by obtain ⟨A, c, h, _⟩ := hm5.ls (show ∀ x, (enU x).length = 1 from fun _ => rfl); exact ⟨A, _, c, h⟩); have HM5 := Lib.hid hm5; clear hm5 hg5 hat5))
        exact ⟨⟨i + 1, E ++ [x.n], by omega, by go_num, HDN.out, HLN2.out, HM5.out⟩, by simp [intOf] <;> omega⟩
      · have HE := Lib.hid (show E = K.map (·.n) by have h := Hid.out hE; rwa [List.take_of_length_le (by rw [← HK.out]; omega)] at h)
        have HM := Lib.hid ((Hid.out hmk).since HB0.out)
        have d0 : wr.cell? ⟨w.heap.size, 0, none⟩ = some (.int .u8 (kd : Int)) := cell_of_row _ _ 0 _ _ _ (((Hid.out hmk).2.block _ (row_lt HR0.out)).trans HR0.out)
        clear hE hmk
        go_wp2
        go_ret
        exact ⟨_, rfl, by rw [← HE.out]; exact HM.out⟩
  have q2 : ((kd : Int) == 2) = false := by rw [beq_eq_false_iff_ne]; omega
  by_cases k3 : kd = 3
  · have q3 : ((kd : Int) == 3) = true := by rw [k3]; rfl
    have HKD := Lib.hid (show kdN ⟨kd, I, K, V⟩ = (V.filter isV).map (·.rt) by unfold kdN nmN; rw [if_neg k2, if_pos k3, List.map_map]; rfl)
    rw [HKD.out]
    clear k2 k3
    go_enter Tryz.func9, Tryz.ntmps9
    go_wp2_with fail
    generalize w.alloc _ = w0 at *
    go_loopw [3, 30] (fun av v wr => ∃ (i : Nat) (E : List Nat), i ≤ nV ∧ v = .int .i64 i ∧ Hid (E = ((V.take i).filter isV).map (·.rt)) ∧ Hid (E.length ≤ i) ∧ Hid (MkU w0 wr av E)) (fun _ v _ => nV - (intOf v).toNat)
    case atStart => exact ⟨0, [], Nat.zero_le _, by go_num, rfl, Nat.le_refl _, Mk.nil (Below.refl _ _)⟩
    case round =>
      obtain ⟨i, E, hi, rfl, hE, hEl, hmk⟩ := hrel
      by_cases hlt : i < nV
      · obtain ⟨x, hx⟩ : ∃ x, V[i]? = some x := ⟨_, List.getElem?_eq_getElem (by rw [← HV.out]; exact hlt)⟩
        have HDL := Lib.hid (show E.length ≤ 2513169434915 by have h := Hid.out hEl; omega)
        obtain ⟨b, o, hAe, hb, hr⟩ := (LV.out.below (HB0.out.trans ((Hid.out hmk).2.mono HB0.out.size))) i x hx
        have hbs : b < wr.heap.size := Nat.lt_of_lt_of_le hb (Nat.le_trans HB0.out.size (Hid.out hmk).2.size)
        have HRG := Lib.hid hr
        have HM := Lib.hid (Hid.out hmk)
        have hsn := filt_sn hx
        by_cases hrt : x.rt = 0
        · have hz : ((x.rt : Int) != 0) = false := by rw [hrt]; rfl
          have HDN := Lib.hid (show E = ((V.take (i + 1)).filter isV).map (·.rt) by rw [hsn, show isV x = false by unfold isV; simp [hrt], Hid.out hE]; simp)
          have HEL := Lib.hid (show E.length ≤ i + 1 by have h := Hid.out hEl; omega)
          clear hr hmk hx hsn hrt
          subst hAe
          go_wp2_with (first
            | (refine wpList_load_at rfl 59 (.tmp 32) rfl b (o + i * 37) rfl (ecV x) _ HRG.out Tryz.underlying59 rfl (infoVs x) ?_)
            | (refine wpList_fresh rfl 59 (.tmp 7) (.tmp 33) rfl (ecV x).toArray _ _ rfl rfl (infoVa x) (ecV_sz x) (all_of_one (ecV_one x)) ?_; intro W hb1 hr1 hz1; have HM1 := Lib.hid (HM.out.go hb1); have c0 : W.cell? ⟨wr.heap.size, 4, none⟩ = some (.int .u32 x.rt) := cell_of_row _ _ 4 _ _ _ hr1; clear hr1 hz1 hb1 HM HRG))
          exact ⟨⟨i + 1, E, by omega, by go_num, HDN.out, HEL.out, HM1.out⟩, by simp [intOf] <;> omega⟩
        · have hz : ((x.rt : Int) != 0) = true := by rw [bne_iff_ne]; omega
          have HDN := Lib.hid (show E ++ [x.rt] = ((V.take (i + 1)).filter isV).map (·.rt) by rw [hsn, show isV x = true by unfold isV; simp [hrt], ← Hid.out hE]; simp)
          have HLN2 := Lib.hid (show (E ++ [x.rt]).length ≤ i + 1 by rw [List.length_append]; have h := Hid.out hEl; simp; exact h)
          clear hr hmk hx hsn hrt
          subst hAe
          go_wp2_with (first
            | (refine wpList_load_at rfl 59 (.tmp 32) rfl b (o + i * 37) rfl (ecV x) _ HRG.out Tryz.underlying59 rfl (infoVs x) ?_)
            | (refine wpList_fresh rfl 59 (.tmp 7) (.tmp 33) rfl (ecV x).toArray _ _ rfl rfl (infoVa x) (ecV_sz x) (all_of_one (ecV_one x)) ?_; intro W hb1 hr1 hz1; have HM1 := Lib.hid ((HM.out.go hb1).alloc (.cells #[.int .u32 x.rt] 39)); have HX2 := Lib.hid (heap_alloc_new W (.cells #[.int .u32 x.rt] 39)); have c0 : W.cell? ⟨wr.heap.size, 4, none⟩ = some (.int .u32 x.rt) := cell_of_row _ _ 4 _ _ _ hr1; clear hr1 hz1 hb1 HM HRG)
            | (refine wpList_plain rfl (fun K1 hK1 => op_catU HM1.out x.rt W.heap.size 1 HX2.out (by have := HDL.out; omega) (.tmp 37) (.tmp 40) rfl rfl rfl (fun v5 w5 hm5 hg5 hat5 => hK1 _ _ ?_)); obtain ⟨A5, n5, c5, rfl⟩ : ∃ A n c, v5 = .slice A n c := (by obtain ⟨A, c, h, _⟩ := hm5.ls (show ∀ x, (enU x).length = 1 from fun _ => rfl); exact ⟨A, _, c, h⟩); have HM5 := Lib.hid hm5; clear hm5 hg5 hat5))
          exact ⟨⟨i + 1, E ++ [x.rt], by omega, by go_num, HDN.out, HLN2.out, HM5.out⟩, by simp [intOf] <;> omega⟩
      · have HE := Lib.hid (show E = (V.filter isV).map (·.rt) by have h := Hid.out hE; rwa [List.take_of_length_le (by rw [← HV.out]; omega)] at h)
        have HM := Lib.hid ((Hid.out hmk).since HB0.out)
        clear hE hmk
        go_wp2
        go_ret
        exact ⟨_, rfl, by rw [← HE.out]; exact HM.out⟩
  have q3 : ((kd : Int) == 3) = false := by rw [beq_eq_false_iff_ne]; omega
  have HKD := Lib.hid (show kdN ⟨kd, I, K, V⟩ = [] by unfold kdN nmN; rw [if_neg k2, if_neg k3]; rfl)
  rw [HKD.out]
  clear k2 k3
  go_enter Tryz.func9, Tryz.ntmps9
  go_wp2
  go_ret
  exact ⟨.slice none 0 0, rfl, Mk.nil HB0.out⟩
end Go.Proofs.YtnfcgifkghegjaaGreatDoor.Nr
/- The walk of the law file's lives (node). -/
namespace Go.Proofs.YtnfcgifkghegjaaGreatDoor.Nd
set_option linter.unusedVariables false
set_option linter.unusedSimpArgs false
open Go.ChangeShapes Go.WideShapes Go.ChangeAt Go.RowKit
open Ar Rg
open BigFrame
open Pk (be num be_length u8s u8s_length)
open It (str_le below_drewN)
def x1 : It.Itm := ⟨⟨#[97]⟩, ⟨#[49]⟩⟩
def L1 : Nd := ⟨1, [x1], [], []⟩
def L0 : Nd := ⟨1, [], [], []⟩
def k1 : Kd := ⟨⟨#[97]⟩, 7, List.replicate 32 0⟩
def B1 : Nd := ⟨2, [], [k1], []⟩
set_option maxRecDepth 100000 in
theorem live1 : (openL (encN L1 ++ [120])).isNone = true := by decide +kernel
set_option maxRecDepth 100000 in
theorem live2 : (encN L1).length = 10 ∧ (encN L1).drop 4 = [1, 1, 1, 97, 1, 49] := by decide +kernel
set_option maxRecDepth 100000 in
theorem live3 : ckN L1 = 0 ∧ ckN L0 = 4 := by decide +kernel
theorem wd_L1 : Wd L1 := ⟨fun x hx => (by cases hx), fun x hx => (by cases hx)⟩
theorem wd_L0 : Wd L0 := ⟨fun x hx => (by cases hx), fun x hx => (by cases hx)⟩
theorem wd_B1 : Wd B1 := ⟨fun x hx => (by have : x = k1 := by simpa [B1] using hx
                                          rw [this]; decide), fun x hx => (by cases hx)⟩
theorem few_B1 : Few B1 := ⟨fun h => (by cases h), fun _ => ⟨by decide, fun x hx => (by have : x = k1 := by simpa [B1] using hx
                                                                                        rw [this]; decide)⟩, fun h => (by cases h)⟩
/-- a node in a variable, in block b -/
def NVar (w : World) (b : Nat) (cs : Array Value) (n : Nd) : Prop := w.heap[b]? = some (.cells cs 27 (0, 0)) ∧ NdAt w cs n
theorem NVar.below {w w' : World} {b : Nat} {cs : Array Value} {n : Nd} (h : NVar w b cs n) (hb : Below w.heap.size w w') : NVar w' b cs n := ⟨(hb.block b (row_lt h.1)).trans h.1, h.2.below hb⟩
theorem NVar.lt {w : World} {b : Nat} {cs : Array Value} {n : Nd} (h : NVar w b cs n) : b < w.heap.size := row_lt h.1
theorem NVar.info {w : World} {b : Nat} {cs : Array Value} {n : Nd} (h : NVar w b cs n) : (Tryz.prog.info? 27).map (·.size) = some cs.size := info4 h.2.size
theorem NdAt.one {w : World} {cs : Array Value} {n : Nd} (h : NdAt w cs n) : cs.all (·.oneCell') = true := by
  obtain ⟨AI, nI, cI, AK, nK, cK, AV, nV, cV, rfl, _⟩ := h; exact four_cells _ _ _ _ rfl rfl rfl rfl
theorem NdAt.nils {w : World} (kd : Nat) : NdAt w #[.int .u8 kd, zS, zS, zS] ⟨kd, [], [], []⟩ := ⟨none, 0, 0, none, 0, 0, none, 0, 0, rfl, rfl, rfl, rfl, Nat.zero_le _, Nat.zero_le _, Nat.zero_le _, Ls.nil, Ls.nil, Ls.nil⟩
/-- Decode's two answers -/
theorem decode_yes (d : ByteArray) (hd : d.size ≤ 9223372036854775807) {n : Nd} (h : decN d.data.toList = some n) (hs : n.I.length ≤ 255 ∧ n.K.length ≤ 255 ∧ n.V.length ≤ 255) (w : World) :
    Calls Tryz.prog 6 #[.string d] w fun e w' => ∃ cs, e = .returned (.tuple #[.agg cs, .int .i64 0]) ∧ NdOwn w w' cs n ∧ NdAt w' cs n := (decode_any d hd w).mono fun e w' hh => by
  obtain ⟨n', cs, he, ho, hn⟩ := hh
  rw [h] at he hn
  have hn : n' = n := hn
  subst hn
  exact ⟨cs, he, ho, ho.at_ (by omega) (by omega) (by omega)⟩
theorem decode_no (d : ByteArray) (hd : d.size ≤ 9223372036854775807) (h : decN d.data.toList = none) (w : World) :
    Calls Tryz.prog 6 #[.string d] w fun e w' => ∃ cs, e = .returned (.tuple #[.agg cs, .int .i64 9]) ∧ NdOwn w w' cs ⟨0, [], [], []⟩ ∧ NdAt w' cs ⟨0, [], [], []⟩ := (decode_any d hd w).mono fun e w' hh => by
  obtain ⟨n', cs, he, ho, hn⟩ := hh
  rw [h] at he hn
  have hn : n' = ⟨0, [], [], []⟩ := hn
  subst hn
  exact ⟨cs, he, ho, ho.at_ (Nat.zero_le _) (Nat.zero_le _) (Nat.zero_le _)⟩
theorem decN_small {d : List UInt8} {n : Nd} (h : decN d = some n) : Wd n ∧ n.I.length ≤ 255 ∧ n.K.length ≤ 255 ∧ n.V.length ≤ 255 := by
  unfold decN at h
  split at h
  · cases h
  · split at h
    · cases h
      have := tkN_fine (by assumption)
      exact ⟨this.1, this.2.1, this.2.2.1, this.2.2.2.1⟩
    · cases h
theorem encB_no {n : Nd} (h : ckN n ≠ 0) : encB n = ByteArray.empty := by unfold encB; rw [if_neg h]
theorem encB_yes {n : Nd} (h : ckN n = 0) : encB n = bs (encN n) := by unfold encB; rw [if_pos h]
set_option maxRecDepth 100000 in
theorem lives_at (w : World) : NdAt ((w.alloc (.cells #[.string ⟨#[97]⟩, .string ⟨#[49]⟩] 61)).alloc (.cells #[.int .u8 1, .slice (some ⟨w.heap.size, 0, none⟩) 1 1, zS, zS] 27)) #[.int .u8 1, .slice (some ⟨w.heap.size, 0, none⟩) 1 1, zS, zS] L1 := by
  refine ⟨some ⟨w.heap.size, 0, none⟩, 1, 1, none, 0, 0, none, 0, 0, rfl, rfl, rfl, rfl, by decide, by decide, by decide, ?_, Ls.nil, Ls.nil⟩
  have h := Ls.new (enc := It.enc) (k := 2) w x1 61 (w.alloc (.cells #[.string ⟨#[97]⟩, .string ⟨#[49]⟩] 61)).heap.size (by simp)
  exact (h.below ((Below.refl _ _).alloc (Nat.le_refl _) _)).more (by simp)
set_option maxRecDepth 100000 in
theorem lives_kid (w : World) : NdAt ((w.alloc (.cells (ecK k1).toArray 55)).alloc (.cells #[.int .u8 2, zS, .slice (some ⟨w.heap.size, 0, none⟩) 1 1, zS] 27)) #[.int .u8 2, zS, .slice (some ⟨w.heap.size, 0, none⟩) 1 1, zS] B1 := by
  refine ⟨none, 0, 0, some ⟨w.heap.size, 0, none⟩, 1, 1, none, 0, 0, rfl, rfl, rfl, rfl, by decide, by decide, by decide, Ls.nil, ?_, Ls.nil⟩
  have h := Ls.new (enc := ecK) (k := 34) w k1 55 (w.alloc (.cells (ecK k1).toArray 55)).heap.size (by simp)
  exact (h.below ((Below.refl _ _).alloc (Nat.le_refl _) _)).more (by simp)
set_option maxRecDepth 100000 in
set_option maxHeartbeats 8000000 in
theorem lives_true (w : World) : Calls Tryz.prog 10 #[] w fun e w' => e = .returned (.bool true) ∧ Below w.heap.size w w' := by
  obtain ⟨S, hS⟩ : ∃ S, bs (encN L1) = S := ⟨_, rfl⟩
  have HEB := Lib.hid (show encB L1 = S by rw [encB_yes live3.1, hS])
  have hlen : S.size = 10 := by rw [← hS, bs_size, live2.1]
  have HX := Lib.hid (show S.extract 4 S.size = ⟨#[1, 1, 1, 97, 1, 49]⟩ by rw [extract_bs, ← hS, bs_data, live2.2]; rfl)
  have HD1 := Lib.hid (show decN S.data.toList = some L1 by rw [← hS, bs_data]; exact dec_enc wd_L1 live3.1)
  have HD2 := Lib.hid (show decN (S ++ ⟨#[120]⟩).data.toList = none by
    have h := live1
    have e : (S ++ (⟨#[120]⟩ : ByteArray)).data.toList = encN L1 ++ [120] := by
      have := bs_app (encN L1) [120]
      rw [hS] at this
      rw [show (⟨#[120]⟩ : ByteArray) = bs [120] from rfl, this, bs_data]
    rw [e]
    unfold decN
    cases ho : openL (encN L1 ++ [120]) with
    | none => rfl
    | some l => rw [ho] at h; cases h)
  have HL := Lib.hid hlen
  have z1 : S.size ≤ 10 := by omega
  have z2 : 4 ≤ S.size := by omega
  have HC0 := Lib.hid (fun w' cs (h : NdAt w' cs L1) => (encode_any L1 wd_L1 cs w' h))
  rw [HEB.out, live3.1] at HC0
  have HC1 := Lib.hid (fun w' => decode_yes S (by omega) HD1.out (by decide) w')
  have HC2 := Lib.hid (fun w' => encode_any L0 wd_L0 #[.int .u8 (1 : Nat), zS, zS, zS] w' (NdAt.nils 1))
  rw [encB_no (n := L0) (by rw [live3.2]; decide), live3.2] at HC2
  have HC3 := Lib.hid (fun w' => decode_no (S ++ ⟨#[120]⟩) (by rw [ByteArray.size_append]; show S.size + 1 ≤ _; omega) HD2.out w')
  have HC4 := Lib.hid (fun w' cs (h : NdAt w' cs B1) => kids_any B1 wd_B1 (by decide) (by decide) cs w' h)
  have HC5 := Lib.hid (fun w' cs (h : NdAt w' cs B1) => size_any B1 few_B1 cs w' h)
  have HC6 := Lib.hid (fun w' cs ds (h : NdAt w' cs L1) (k : NdAt w' ds L1) => same_any L1 L1 wd_L1 wd_L1 cs ds w' h k)
  rw [(eqN_iff L1 L1).2 rfl] at HC6
  rw [show szN B1 = 40 by decide +kernel] at HC5
  have HKR := Lib.hid (show (#[.string ⟨#[97]⟩, .int .u32 7, .int .u8 0, .int .u8 0, .int .u8 0, .int .u8 0, .int .u8 0, .int .u8 0, .int .u8 0, .int .u8 0, .int .u8 0, .int .u8 0, .int .u8 0, .int .u8 0, .int .u8 0, .int .u8 0, .int .u8 0, .int .u8 0, .int .u8 0, .int .u8 0, .int .u8 0, .int .u8 0, .int .u8 0, .int .u8 0, .int .u8 0, .int .u8 0, .int .u8 0, .int .u8 0, .int .u8 0, .int .u8 0, .int .u8 0, .int .u8 0, .int .u8 0, .int .u8 0] : Array Value) = (ecK k1).toArray by kernel_rfl)
  clear hS hlen
  have HV1 := Lib.hid (show NVar _ (w.heap.size + 1) _ L1 from ⟨(by have := heap_alloc_new (w.alloc (.cells #[.string ⟨#[97]⟩, .string ⟨#[49]⟩] 61)) (.cells #[.int .u8 1, .slice (some ⟨w.heap.size, 0, none⟩) 1 1, zS, zS] 27); simpa using this), lives_at w⟩)
  have HB1 := Lib.hid (show Below w.heap.size w _ from (((Below.refl w.heap.size w).alloc (Nat.le_refl _) (.cells #[.string ⟨#[97]⟩, .string ⟨#[49]⟩] 61)).alloc (by simp) (.cells #[.int .u8 1, .slice (some ⟨w.heap.size, 0, none⟩) 1 1, zS, zS] 27)))
  go_enter Tryz.func10, Tryz.ntmps10
  go_wp2_with fail
  generalize (w.alloc _).alloc _ = W1 at *
  go_at_call 4
  refine (HC0.out _ _ HV1.out.2).mono ?_
  rintro e w2 ⟨rfl, hb2⟩
  have HV2 := Lib.hid (HV1.out.below hb2)
  have HB2 := Lib.hid (HB1.out.trans (hb2.mono HB1.out.size))
  clear hb2 HV1 HB1
  go_wp2_with fail
  go_at_call 6
  refine (HC1.out _).mono ?_
  rintro e w3 ⟨cs4, rfl, ho3, ha3⟩
  have HV3 := Lib.hid (HV2.out.below ho3.bel)
  have HB3 := Lib.hid (HB2.out.trans (ho3.bel.mono HB2.out.size))
  have HA3 := Lib.hid ha3
  clear ho3 ha3 HV2 HB2
  go_wp2_with (refine wpList_fresh rfl 27 (.tmp 4) (.tmp 23) rfl cs4 _ _ rfl rfl (info4 HA3.out.size) HA3.out.size.symm HA3.out.one ?_; intro w4 hb4 hr4 hz4; have HM4 := Lib.hid (show NVar w4 w3.heap.size cs4 L1 from ⟨hr4, HA3.out.below hb4⟩); have HV4 := Lib.hid (HV3.out.below hb4); have HB4 := Lib.hid (HB3.out.trans (hb4.mono HB3.out.size)); clear hb4 hr4 hz4 HV3 HB3)
  go_at_call 4
  refine (HC2.out _).mono ?_
  rintro e w5 ⟨rfl, hb5⟩
  have HV5 := Lib.hid (HV4.out.below hb5)
  have HM5 := Lib.hid (HM4.out.below hb5)
  have HB5 := Lib.hid (HB4.out.trans (hb5.mono HB4.out.size))
  clear hb5 HV4 HM4 HB4
  go_wp2_with fail
  go_at_call 6
  refine (HC3.out _).mono ?_
  rintro e w6 ⟨cs8, rfl, ho6, ha6⟩
  have HV6 := Lib.hid (HV5.out.below ho6.bel)
  have HM6 := Lib.hid (HM5.out.below ho6.bel)
  have HB6 := Lib.hid (HB5.out.trans (ho6.bel.mono HB5.out.size))
  have HA6 := Lib.hid ha6
  clear ho6 ha6 HV5 HM5 HB5
  go_wp2_with (refine wpList_fresh rfl 27 (.tmp 8) (.tmp 34) rfl cs8 _ _ rfl rfl (info4 HA6.out.size) HA6.out.size.symm HA6.out.one ?_; intro w7 hb7 hr7 hz7; have HV7 := Lib.hid (HV6.out.below hb7); have HM7 := Lib.hid (HM6.out.below hb7); have HB7 := Lib.hid (HB6.out.trans (hb7.mono HB6.out.size)); clear hb7 hr7 hz7 HV6 HM6 HB6)
  have hk8 := lives_kid w7
  have hr8 := heap_alloc_new (w7.alloc (.cells (ecK k1).toArray 55)) (.cells #[.int .u8 2, zS, .slice (some ⟨w7.heap.size, 0, none⟩) 1 1, zS] 27)
  have hb8 : Below w7.heap.size w7 ((w7.alloc (.cells (ecK k1).toArray 55)).alloc (.cells #[.int .u8 2, zS, .slice (some ⟨w7.heap.size, 0, none⟩) 1 1, zS] 27)) := ((Below.refl _ _).alloc (Nat.le_refl _) _).alloc (by simp) _
  rw [show (w7.alloc (.cells (ecK k1).toArray 55)).heap.size = w7.heap.size + 1 by simp] at hr8
  rw [← HKR.out] at hk8 hr8 hb8
  have HN8 := Lib.hid (show NVar _ (w7.heap.size + 1) _ B1 from ⟨hr8, hk8⟩)
  have HV8 := Lib.hid (HV7.out.below hb8)
  have HM8 := Lib.hid (HM7.out.below hb8)
  have HB8 := Lib.hid (HB7.out.trans (hb8.mono HB7.out.size))
  clear hk8 hr8 hb8 HV7 HM7 HB7
  generalize (w7.alloc _).alloc _ = w8 at *
  go_at_call 8
  refine (HC4.out _ _ HN8.out.2).mono ?_
  rintro e w9 ⟨v9, rfl, hm9⟩
  have HV9 := Lib.hid (HV8.out.below hm9.2)
  have HM9 := Lib.hid (HM8.out.below hm9.2)
  have HN9 := Lib.hid (HN8.out.below hm9.2)
  have HB9 := Lib.hid (HB8.out.trans (hm9.2.mono HB8.out.size))
  obtain ⟨A9, c9, rfl, hle9, _, hl9⟩ := hm9.ls (show ∀ x, (enU x).length = 1 from fun _ => rfl)
  rw [show kdN B1 = [7] from rfl] at hl9 hle9
  obtain ⟨b9, o9, hA9, hlt9, hr9⟩ := hl9 0 7 rfl
  subst hA9
  have hc9 : w9.cell? ⟨b9, o9, none⟩ = some (.int .u32 7) := by have := hr9 0 _ rfl; simpa using this
  have HC9 := Lib.hid hc9
  have HLT := Lib.hid hlt9
  rw [show (kdN B1).length = 1 from rfl]
  have hle : 1 ≤ c9 := hle9
  clear hm9 hl9 hr9 hlt9 hle9 hc9 HV8 HM8 HN8 HB8
  have hsz : ((S.size : Int) == 10) = true := by rw [HL.out]; rfl
  have hex := HX.out
  go_wp2_with (first
    | (refine wpList_load_row_g 27 (.tmp 1) rfl (by kernel_rfl) (w.heap.size + 1) rfl 27 _ (0, 0) _ HV9.out.1 Tryz.underlying27 rfl HV9.out.info ?_)
    | (refine wpList_load_row_g 27 (.tmp 4) rfl (by kernel_rfl) w3.heap.size rfl 27 cs4 (0, 0) _ HM9.out.1 Tryz.underlying27 rfl HM9.out.info ?_)
    | (go_at_call 11; refine (HC6.out _ _ _ HV9.out.2 HM9.out.2).mono ?_; rintro e w10 ⟨rfl, hb10⟩; have hc10 : w10.cell? ⟨b9, o9, none⟩ = some (.int .u32 7) := (hb10.cell (p := ⟨b9, o9, none⟩) HLT.out).trans HC9.out; have HN10 := Lib.hid (HN9.out.below hb10); have HB10 := Lib.hid (HB9.out.trans (hb10.mono HB9.out.size)); clear hb10)
    | (refine wpList_load_row_g 27 (.tmp 10) rfl (by kernel_rfl) (w7.heap.size + 1) rfl 27 _ (0, 0) _ HN10.out.1 Tryz.underlying27 rfl HN10.out.info ?_)
    | (go_at_call 14; refine (HC5.out _ _ HN10.out.2).mono ?_; rintro e w11 ⟨rfl, hb11, _⟩; have HB11 := Lib.hid (HB10.out.trans (hb11.mono HB10.out.size)); clear hb11))
  go_ret
  exact ⟨rfl, HB11.out⟩
end Go.Proofs.YtnfcgifkghegjaaGreatDoor.Nd
/- The walk of the law NodeCodes. -/
namespace Go.Proofs.YtnfcgifkghegjaaGreatDoor.Nr
set_option linter.unusedVariables false
set_option linter.unusedSimpArgs false
open Go.ChangeShapes Go.WideShapes Go.ChangeAt Go.RowKit
open Nd Rg Ar
open BigFrame
open Pk (be num be_length u8s u8s_length)
theorem row_runN {P : Program} {ev : Operand → Value} {o : Oper} {w : World} (ty : TypeId) {x : Operand} (ho : o.op = .load ty x) (b : Nat) (hx : ev x = .pointer (some ⟨b, 0, none⟩)) (cs : Array Value) (t : TypeId) (fr : Nat × Nat) (d : TypeDesc) (hg : w.heap[b]? = some (.cells cs t fr))
    (hu : P.underlying ty = some d) (hd : (match d with | .struct _ | .array _ _ => true | _ => false) = true) (hi : (P.info? ty).map (·.size) = some cs.size) : (execOp ev o).run P w = .ok (.value (.agg cs)) w := by
  unfold execOp
  simp only [ho, hx, Instr.loadAt, Instr.sureAddr, Sem.run_bind, Sem.run_pure, Result.andThen_ok, run_loadVar_row w b t ty cs fr d hg hu hd hi]
/-- either Decode's answer -/
theorem de_at {d : ByteArray} {w w' : World} {e : Ending} (h : DePost d w e w') : ∃ cs, e = .returned (.tuple #[.agg cs, .int .i64 (if (decN d.data.toList).isSome then 0 else 9)]) ∧ NdAt w' cs ((decN d.data.toList).getD ⟨0, [], [], []⟩) ∧ Below w.heap.size w w' := by
  obtain ⟨n, cs, he, ho, rfl⟩ := h
  refine ⟨cs, he, ?_, ho.bel⟩
  cases hd : decN d.data.toList with
  | none => rw [hd] at ho; exact ho.at_ (Nat.zero_le _) (Nat.zero_le _) (Nat.zero_le _)
  | some n =>
    rw [hd] at ho
    have := decN_small hd
    exact ho.at_ (show n.I.length ≤ _ by omega) (show n.K.length ≤ _ by omega) (show n.V.length ≤ _ by omega)
theorem de_wd (d : List UInt8) : Wd ((decN d).getD ⟨0, [], [], []⟩) := by
  cases hd : decN d with
  | none => exact ⟨fun x hx => (by cases hx), fun x hx => (by cases hx)⟩
  | some n => exact (decN_small hd).1
set_option maxRecDepth 100000 in
set_option maxHeartbeats 8000000 in
theorem nodeCodes_walk (n : Nd) (hw : Wd n) (hs1 : n.K.length ≤ 2513169434915) (hs2 : n.V.length ≤ 2513169434915) (d : ByteArray) (hd : d.size ≤ 9223372036854775807) (C : Array Value) (w : World) (hn : NdAt w C n) :
    Calls Tryz.prog 3 #[.agg C, .string d] w fun e w' => e = .returned (.bool true) ∧ Below w.heap.size w w' := by
  have HL := Lib.hid (fun w => lives_true w)
  have E1 := Lib.hid (fun w (h : NdAt w C n) => encode_any n hw C w h)
  have E2 := Lib.hid (fun w (h : NdAt w C n) => rencodeN_any n hw C w h)
  have D1 := Lib.hid (fun w => (decode_any d hd w).mono fun e w' h => de_at h)
  have D2 := Lib.hid (fun w => (rdecodeN_any d hd w).mono fun e w' h => de_at h)
  have K1 := Lib.hid (fun w (h : NdAt w C n) => check_any n hw C w h)
  have K2 := Lib.hid (fun w (h : NdAt w C n) => rcheckN_any n hw C w h)
  have Z1 := Lib.hid (fun w (h : NdAt w C n) => sizeG_any n C w h)
  have Z2 := Lib.hid (fun w (h : NdAt w C n) => sizeR_any n C w h)
  have G1 := Lib.hid (fun w (h : NdAt w C n) => kids_any n hw hs1 hs2 C w h)
  have G2 := Lib.hid (fun w (h : NdAt w C n) => rkids_any n hw hs1 hs2 C w h)
  have hwd := de_wd d.data.toList
  have hkl : (kdN n).length ≤ 2513169434915 := by
    unfold kdN nmN
    rw [List.length_map]
    by_cases k2 : n.kd = 2
    · rw [if_pos k2, List.length_map]; exact hs1
    · rw [if_neg k2]
      by_cases k3 : n.kd = 3
      · rw [if_pos k3, List.length_map]; exact Nat.le_trans (List.length_filter_le _ _) hs2
      · rw [if_neg k3]; exact Nat.zero_le _
  have HKL := Lib.hid hkl
  clear hkl
  have HCI := Lib.hid (info4 hn.size)
  have HN0 := Lib.hid hn
  obtain ⟨m, hm⟩ : ∃ m, (decN d.data.toList).getD ⟨0, [], [], []⟩ = m := ⟨_, rfl⟩
  rw [hm] at D1 D2 hwd
  clear hm
  have SM0 := fun w D E (h : NdAt w D m) (h2 : NdAt w E m) => same_any m m hwd hwd D E w h h2
  rw [(eqN_iff m m).2 rfl] at SM0
  have SM1 := Lib.hid SM0
  clear SM0 hwd hd hw hs1 hs2 hn
  generalize encB n = a at *
  generalize ckN n = x at *
  generalize w6 ((szN n : Nat) : Int) = z at *
  generalize kdN n = L at *
  obtain ⟨u, hu⟩ : ∃ u, (if (decN d.data.toList).isSome then (0 : Int) else 9) = u := ⟨_, rfl⟩
  rw [hu] at D1 D2
  clear hu
  have R0 := Lib.hid (heap_alloc_new w (.cells C 27))
  have B0 := Lib.hid ((Below.refl w.heap.size w).alloc (Nat.le_refl _) (.cells C 27))
  have NC0 := Lib.hid (HN0.out.below B0.out)
  go_enter Tryz.func3, Tryz.ntmps3
  go_wp2_with (refine wpList_load_row rfl 27 (.tmp 2) rfl w.heap.size rfl 27 C (0, 0) _ R0.out Tryz.underlying27 rfl HCI.out ?_)
  generalize w.alloc _ = W at *
  refine (E1.out _ NC0.out).mono ?_
  rintro e w1 ⟨rfl, hb⟩
  have R1 := Lib.hid ((hb.block _ (row_lt R0.out)).trans R0.out)
  have B1 := Lib.hid (B0.out.trans (hb.mono B0.out.size))
  have NC1 := Lib.hid (NC0.out.below hb)
  clear hb R0 B0 E1 NC0
  go_wp2_with (refine wpList_load_row rfl 27 (.tmp 2) rfl w.heap.size rfl 27 C (0, 0) _ R1.out Tryz.underlying27 rfl HCI.out ?_)
  refine (E2.out _ NC1.out).mono ?_
  rintro e w2 ⟨rfl, hb⟩
  have R2 := Lib.hid ((hb.block _ (row_lt R1.out)).trans R1.out)
  have B2 := Lib.hid (B1.out.trans (hb.mono B1.out.size))
  have NC2 := Lib.hid (NC1.out.below hb)
  clear hb R1 B1 E2 NC1
  go_wp2_with fail
  refine (D1.out _).mono ?_
  rintro e w3 ⟨D, rfl, hat, hb⟩
  have R3 := Lib.hid ((hb.block _ (row_lt R2.out)).trans R2.out)
  have B3 := Lib.hid (B2.out.trans (hb.mono B2.out.size))
  have NC3 := Lib.hid (NC2.out.below hb)
  have ND3 := Lib.hid hat
  have HDI := Lib.hid (info4 hat.size)
  have HDZ := Lib.hid (show (zN : Array Value).size = D.size by rw [hat.size]; rfl)
  have HDO := Lib.hid hat.one
  clear hat hb R2 B2 D1 NC2
  go_wp2_with (refine wpList_fresh rfl 27 (.tmp 9) (.tmp 29) rfl D zN 27 rfl rfl HDI.out HDZ.out HDO.out ?_; intro w4 hb hr hz; have R4 := Lib.hid ((hb.block _ (row_lt R3.out)).trans R3.out); have Q4 := Lib.hid hr; have B4 := Lib.hid (B3.out.trans (hb.mono B3.out.size)); have NC4 := Lib.hid (NC3.out.below hb); have ND4 := Lib.hid (ND3.out.below hb); clear hb hr hz R3 B3 NC3 ND3)
  refine (D2.out _).mono ?_
  rintro e w5 ⟨E, rfl, hat, hb⟩
  have R5 := Lib.hid ((hb.block _ (row_lt R4.out)).trans R4.out)
  have Q5 := Lib.hid ((hb.block _ (row_lt Q4.out)).trans Q4.out)
  have B5 := Lib.hid (B4.out.trans (hb.mono B4.out.size))
  have NC5 := Lib.hid (NC4.out.below hb)
  have ND5 := Lib.hid (ND4.out.below hb)
  have NE5 := Lib.hid hat
  have HEI := Lib.hid (info4 hat.size)
  have HEZ := Lib.hid (show (zN : Array Value).size = E.size by rw [hat.size]; rfl)
  have HEO := Lib.hid hat.one
  clear hat hb R4 Q4 B4 D2 NC4 ND4
  go_wp2_with (refine wpList_fresh rfl 27 (.tmp 11) (.tmp 34) rfl E zN 27 rfl rfl HEI.out HEZ.out HEO.out ?_; intro w6 hb hr hz; have R6 := Lib.hid ((hb.block _ (row_lt R5.out)).trans R5.out); have Q6 := Lib.hid ((hb.block _ (row_lt Q5.out)).trans Q5.out); have P6 := Lib.hid hr; have B6 := Lib.hid (B5.out.trans (hb.mono B5.out.size)); have NC6 := Lib.hid (NC5.out.below hb); have ND6 := Lib.hid (ND5.out.below hb); have NE6 := Lib.hid (NE5.out.below hb); clear hb hr hz R5 Q5 B5 NC5 ND5 NE5)
  refine wp_region_T (fun w' : World => w'.heap[w.heap.size]? = some (.cells C 27 (0, 0))) 4 (by kernel_rfl) (by kernel_rfl) ?_
  have hS : w6.drew.heap[w.heap.size]? = some (.cells C 27 (0, 0)) := R6.out
  refine take_T 0 36 (.agg C) rfl (by rfl) (by kernel_rfl) (by decide) (by kernel_rfl) (by kernel_rfl) (by kernel_rfl) (fun _ _ _ h => h) (Or.inl ⟨by rfl, fun w' hSw => by exact row_runN 27 rfl w.heap.size rfl _ _ (0, 0) _ hSw Tryz.underlying27 rfl HCI.out⟩) hS ?_
  simp only [List.setIfInBounds_toArray, List.set_cons_zero, List.set_cons_succ]
  refine take_T 2 38 (.agg C) rfl (by rfl) (by kernel_rfl) (by decide) (by kernel_rfl) (by kernel_rfl) (by kernel_rfl) (fun _ _ _ h => h) (Or.inl ⟨by rfl, fun w' hSw => by exact row_runN 27 rfl w.heap.size rfl _ _ (0, 0) _ hSw Tryz.underlying27 rfl HCI.out⟩) hS ?_
  simp only [List.setIfInBounds_toArray, List.set_cons_zero, List.set_cons_succ]
  refine only_T 1 rfl (by kernel_rfl) (by decide) (by rfl) (fun K hK => ?_)
  go_wp2_with fail
  go_at_call 8
  refine (G1.out _ (show NdAt w6.drew C n from NC6.out.below (Below.refl _ _).drew)).mono ?_
  rintro e w7 ⟨v1, rfl, hmk⟩
  have hb : Below w6.heap.size w6 w7 := (Below.refl _ _).drew.trans hmk.2
  have R7 := Lib.hid ((hb.block _ (row_lt R6.out)).trans R6.out)
  have Q7 := Lib.hid ((hb.block _ (row_lt Q6.out)).trans Q6.out)
  have P7 := Lib.hid ((hb.block _ (row_lt P6.out)).trans P6.out)
  have B7 := Lib.hid (B6.out.trans (hb.mono B6.out.size))
  have NC7 := Lib.hid (NC6.out.below hb)
  have ND7 := Lib.hid (ND6.out.below hb)
  have NE7 := Lib.hid (NE6.out.below hb)
  have M7 := Lib.hid hmk
  clear hb hmk R6 Q6 P6 B6 NC6 ND6 NE6
  have hS2 : w7.heap[w.heap.size]? = some (.cells C 27 (0, 0)) := R7.out
  refine hK.out _ _ hS2 ?_
  clear hK K
  try simp only [Act.put, List.setIfInBounds_toArray, List.set_cons_zero, List.set_cons_succ]
  clear hS
  have hS := hS2
  clear hS2
  refine only_T 3 rfl (by kernel_rfl) (by decide) (by rfl) (fun K hK => ?_)
  go_wp2_with fail
  go_at_call 9
  refine (G2.out _ NC7.out).mono ?_
  rintro e w8 ⟨v2, rfl, hmk⟩
  have hb : Below w7.heap.size w7 w8 := hmk.2
  have R9 := Lib.hid ((hb.block _ (row_lt R7.out)).trans R7.out)
  have Q9 := Lib.hid ((hb.block _ (row_lt Q7.out)).trans Q7.out)
  have P9 := Lib.hid ((hb.block _ (row_lt P7.out)).trans P7.out)
  have B9 := Lib.hid (B7.out.trans (hb.mono B7.out.size))
  have NC9 := Lib.hid (NC7.out.below hb)
  have ND9 := Lib.hid (ND7.out.below hb)
  have NE9 := Lib.hid (NE7.out.below hb)
  obtain ⟨A1, c1, h1, _, _, l1⟩ := (M7.out.go hb).ls (show ∀ x, (enU x).length = 1 from fun _ => rfl)
  obtain ⟨A2, c2, h2, _, _, l2⟩ := hmk.ls (show ∀ x, (enU x).length = 1 from fun _ => rfl)
  have L1 := Lib.hid l1
  have L2 := Lib.hid l2
  obtain ⟨k, hk⟩ : ∃ k, L.length = k := ⟨_, rfl⟩
  rw [hk] at h1 h2
  have HK := Lib.hid hk
  subst h1 h2
  clear hb hmk R7 Q7 P7 B7 NC7 ND7 NE7 M7 l1 l2 hk
  have hS2 : w8.heap[w.heap.size]? = some (.cells C 27 (0, 0)) := R9.out
  refine hK.out _ _ hS2 ?_
  clear hK K
  try simp only [Act.put, List.setIfInBounds_toArray, List.set_cons_zero, List.set_cons_succ]
  clear hS hS2
  refine done_T (by kernel_rfl) ?_
  simp only [List.drop_succ_cons, List.drop_zero]
  go_wp2_with fail
  have hk9 : k ≤ 2513169434915 := by rw [← HK.out]; exact HKL.out
  have SM := Lib.hid (fun w (h : NdAt w D m) (h2 : NdAt w E m) => SM1.out w D E h h2)
  have k0 := row_lt R9.out
  have k1 := row_lt Q9.out
  have k2 := row_lt P9.out
  refine wp_region_G (fun w' => Below w8.heap.size w8 w') (by kernel_rfl) (by kernel_rfl) (Below.refl _ _).drew ?_
  refine wpG_call (.bool true) 10 #[] rfl (by rfl) (fun w' => by go_simp) (fun w' hSw => (HL.out w').mono fun e w2 h => ⟨h.1, hSw.trans (h.2.mono hSw.size)⟩) ?_
  simp only [List.setIfInBounds_toArray, List.set_cons_zero, List.set_cons_succ]
  refine wpG_val (.bool false) rfl (by rfl) (fun w' hSw => by go_simp) ?_
  simp only [List.setIfInBounds_toArray, List.set_cons_zero, List.set_cons_succ]
  refine wpG_val (.bool false) rfl (by rfl) (fun w' hSw => by go_simp) ?_
  simp only [List.setIfInBounds_toArray, List.set_cons_zero, List.set_cons_succ]
  refine wpG_val (.string a) rfl (by rfl) (fun w' hSw => by go_simp) ?_
  simp only [List.setIfInBounds_toArray, List.set_cons_zero, List.set_cons_succ]
  refine wpG_val (.string a) rfl (by rfl) (fun w' hSw => by go_simp) ?_
  simp only [List.setIfInBounds_toArray, List.set_cons_zero, List.set_cons_succ]
  refine wpG_val (.bool false) rfl (by rfl) (fun w' hSw => by go_simp) ?_
  simp only [List.setIfInBounds_toArray, List.set_cons_zero, List.set_cons_succ]
  refine wpG_val (.bool false) rfl (by rfl) (fun w' hSw => by go_simp) ?_
  simp only [List.setIfInBounds_toArray, List.set_cons_zero, List.set_cons_succ]
  refine wpG_val (.bool false) rfl (by rfl) (fun w' hSw => by go_simp) ?_
  simp only [List.setIfInBounds_toArray, List.set_cons_zero, List.set_cons_succ]
  refine wpG_val (.int .i64 x) rfl (by rfl) (fun w' hSw => by go_simp) ?_
  simp only [List.setIfInBounds_toArray, List.set_cons_zero, List.set_cons_succ]
  refine wpG_val (.int .i64 x) rfl (by rfl) (fun w' hSw => by go_simp) ?_
  simp only [List.setIfInBounds_toArray, List.set_cons_zero, List.set_cons_succ]
  refine wpG_val (.bool false) rfl (by rfl) (fun w' hSw => by go_simp) ?_
  simp only [List.setIfInBounds_toArray, List.set_cons_zero, List.set_cons_succ]
  refine wpG_val (.bool false) rfl (by rfl) (fun w' hSw => by go_simp) ?_
  simp only [List.setIfInBounds_toArray, List.set_cons_zero, List.set_cons_succ]
  refine wpG_val (.bool false) rfl (by rfl) (fun w' hSw => by go_simp) ?_
  simp only [List.setIfInBounds_toArray, List.set_cons_zero, List.set_cons_succ]
  refine wpG_val (.agg D) rfl (by rfl) (fun w' hSw => by have r := (hSw.block _ k1).trans Q9.out; exact row_runN 27 rfl w3.heap.size rfl _ _ (0, 0) _ r Tryz.underlying27 rfl HDI.out) ?_
  simp only [List.setIfInBounds_toArray, List.set_cons_zero, List.set_cons_succ]
  refine wpG_val (.agg E) rfl (by rfl) (fun w' hSw => by have r := (hSw.block _ k2).trans P9.out; exact row_runN 27 rfl w5.heap.size rfl _ _ (0, 0) _ r Tryz.underlying27 rfl HEI.out) ?_
  simp only [List.setIfInBounds_toArray, List.set_cons_zero, List.set_cons_succ]
  refine wpG_call (.bool true) 11 #[.agg D, .agg E] rfl (by rfl) (fun w' => by go_simp) (fun w' hSw => (SM.out w' (ND9.out.below hSw) (NE9.out.below hSw)).mono fun e w2 h => ⟨h.1, hSw.trans (h.2.mono hSw.size)⟩) ?_
  simp only [List.setIfInBounds_toArray, List.set_cons_zero, List.set_cons_succ]
  refine wpG_val (.bool false) rfl (by rfl) (fun w' hSw => by go_simp) ?_
  simp only [List.setIfInBounds_toArray, List.set_cons_zero, List.set_cons_succ]
  refine wpG_val (.bool false) rfl (by rfl) (fun w' hSw => by go_simp) ?_
  simp only [List.setIfInBounds_toArray, List.set_cons_zero, List.set_cons_succ]
  refine wpG_val (.bool false) rfl (by rfl) (fun w' hSw => by go_simp) ?_
  simp only [List.setIfInBounds_toArray, List.set_cons_zero, List.set_cons_succ]
  refine wpG_val (.int .i64 u) rfl (by rfl) (fun w' hSw => by go_simp) ?_
  simp only [List.setIfInBounds_toArray, List.set_cons_zero, List.set_cons_succ]
  refine wpG_val (.int .i64 u) rfl (by rfl) (fun w' hSw => by go_simp) ?_
  simp only [List.setIfInBounds_toArray, List.set_cons_zero, List.set_cons_succ]
  refine wpG_val (.bool false) rfl (by rfl) (fun w' hSw => by go_simp) ?_
  simp only [List.setIfInBounds_toArray, List.set_cons_zero, List.set_cons_succ]
  refine wpG_val (.bool false) rfl (by rfl) (fun w' hSw => by go_simp) ?_
  simp only [List.setIfInBounds_toArray, List.set_cons_zero, List.set_cons_succ]
  refine wpG_val (.bool false) rfl (by rfl) (fun w' hSw => by go_simp) ?_
  simp only [List.setIfInBounds_toArray, List.set_cons_zero, List.set_cons_succ]
  refine wpG_val (.agg C) rfl (by rfl) (fun w' hSw => by have r := (hSw.block _ k0).trans R9.out; exact row_runN 27 rfl w.heap.size rfl _ _ (0, 0) _ r Tryz.underlying27 rfl HCI.out) ?_
  simp only [List.setIfInBounds_toArray, List.set_cons_zero, List.set_cons_succ]
  refine wpG_call (.int .i64 x) 12 #[.agg C] rfl (by rfl) (fun w' => by go_simp) (fun w' hSw => (K1.out w' (NC9.out.below hSw)).mono fun e w2 h => ⟨h.1, hSw.trans (h.2.mono hSw.size)⟩) ?_
  simp only [List.setIfInBounds_toArray, List.set_cons_zero, List.set_cons_succ]
  refine wpG_val (.agg C) rfl (by rfl) (fun w' hSw => by have r := (hSw.block _ k0).trans R9.out; exact row_runN 27 rfl w.heap.size rfl _ _ (0, 0) _ r Tryz.underlying27 rfl HCI.out) ?_
  simp only [List.setIfInBounds_toArray, List.set_cons_zero, List.set_cons_succ]
  refine wpG_call (.int .i64 x) 13 #[.agg C] rfl (by rfl) (fun w' => by go_simp) (fun w' hSw => (K2.out w' (NC9.out.below hSw)).mono fun e w2 h => ⟨h.1, hSw.trans (h.2.mono hSw.size)⟩) ?_
  simp only [List.setIfInBounds_toArray, List.set_cons_zero, List.set_cons_succ]
  refine wpG_val (.bool false) rfl (by rfl) (fun w' hSw => by go_simp) ?_
  simp only [List.setIfInBounds_toArray, List.set_cons_zero, List.set_cons_succ]
  refine wpG_val (.bool false) rfl (by rfl) (fun w' hSw => by go_simp) ?_
  simp only [List.setIfInBounds_toArray, List.set_cons_zero, List.set_cons_succ]
  refine wpG_val (.bool false) rfl (by rfl) (fun w' hSw => by go_simp) ?_
  simp only [List.setIfInBounds_toArray, List.set_cons_zero, List.set_cons_succ]
  refine wpG_val (.agg C) rfl (by rfl) (fun w' hSw => by have r := (hSw.block _ k0).trans R9.out; exact row_runN 27 rfl w.heap.size rfl _ _ (0, 0) _ r Tryz.underlying27 rfl HCI.out) ?_
  simp only [List.setIfInBounds_toArray, List.set_cons_zero, List.set_cons_succ]
  refine wpG_call (.int .i64 z) 14 #[.agg C] rfl (by rfl) (fun w' => by go_simp) (fun w' hSw => (Z1.out w' (NC9.out.below hSw)).mono fun e w2 h => ⟨h.1, hSw.trans (h.2.mono hSw.size)⟩) ?_
  simp only [List.setIfInBounds_toArray, List.set_cons_zero, List.set_cons_succ]
  refine wpG_val (.agg C) rfl (by rfl) (fun w' hSw => by have r := (hSw.block _ k0).trans R9.out; exact row_runN 27 rfl w.heap.size rfl _ _ (0, 0) _ r Tryz.underlying27 rfl HCI.out) ?_
  simp only [List.setIfInBounds_toArray, List.set_cons_zero, List.set_cons_succ]
  refine wpG_call (.int .i64 z) 15 #[.agg C] rfl (by rfl) (fun w' => by go_simp) (fun w' hSw => (Z2.out w' (NC9.out.below hSw)).mono fun e w2 h => ⟨h.1, hSw.trans (h.2.mono hSw.size)⟩) ?_
  simp only [List.setIfInBounds_toArray, List.set_cons_zero, List.set_cons_succ]
  refine wpG_val (.bool false) rfl (by rfl) (fun w' hSw => by go_simp) ?_
  simp only [List.setIfInBounds_toArray, List.set_cons_zero, List.set_cons_succ]
  refine wpG_val (.bool false) rfl (by rfl) (fun w' hSw => by go_simp) ?_
  simp only [List.setIfInBounds_toArray, List.set_cons_zero, List.set_cons_succ]
  refine wpG_val (.bool false) rfl (by rfl) (fun w' hSw => by go_simp) ?_
  simp only [List.setIfInBounds_toArray, List.set_cons_zero, List.set_cons_succ]
  refine wpG_val (.slice A1 k c1) rfl (by rfl) (fun w' hSw => by go_simp) ?_
  simp only [List.setIfInBounds_toArray, List.set_cons_zero, List.set_cons_succ]
  refine wpG_val (.int .i64 (k : Nat)) rfl (by rfl) (fun w' hSw => by go_simp) ?_
  simp only [List.setIfInBounds_toArray, List.set_cons_zero, List.set_cons_succ]
  refine wpG_val (.slice A2 k c2) rfl (by rfl) (fun w' hSw => by go_simp) ?_
  simp only [List.setIfInBounds_toArray, List.set_cons_zero, List.set_cons_succ]
  refine wpG_val (.int .i64 (k : Nat)) rfl (by rfl) (fun w' hSw => by go_simp) ?_
  simp only [List.setIfInBounds_toArray, List.set_cons_zero, List.set_cons_succ]
  refine wpG_val (.bool false) rfl (by rfl) (fun w' hSw => by go_simp) ?_
  simp only [List.setIfInBounds_toArray, List.set_cons_zero, List.set_cons_succ]
  refine wpG_val (.bool false) rfl (by rfl) (fun w' hSw => by go_simp) ?_
  simp only [List.setIfInBounds_toArray, List.set_cons_zero, List.set_cons_succ]
  refine wpG_nil ?_
  intro wS hSw
  have HSW := Lib.hid hSw
  clear hSw k0 k1 k2
  go_wp2_with fail
  go_loopw [86] (fun iv wr => ∃ i : Nat, i ≤ k ∧ iv = .int .i64 i ∧ Hid (Below w8.heap.size w8 wr)) (fun iv _ => k - (intOf iv).toNat)
  case atStart => exact ⟨0, Nat.zero_le _, by go_num, HSW.out⟩
  case round =>
    obtain ⟨i, hi, rfl, hbw⟩ := hrel
    by_cases hlt : i < k
    · obtain ⟨y, hy⟩ : ∃ y, L[i]? = some y := ⟨_, List.getElem?_eq_getElem (by rw [HK.out]; exact hlt)⟩
      obtain ⟨b1, o1, hA1, hb1, hr1⟩ := (L1.out.below (Hid.out hbw)) i y hy
      obtain ⟨b2, o2, hA2, hb2, hr2⟩ := (L2.out.below (Hid.out hbw)) i y hy
      have cx1 : wr.cell? ⟨b1, o1 + i, none⟩ = some (.int .u32 y) := by have := hr1 0 (.int .u32 y) rfl; simpa using this
      have cx2 : wr.cell? ⟨b2, o2 + i, none⟩ = some (.int .u32 y) := by have := hr2 0 (.int .u32 y) rfl; simpa using this
      have HBW := Lib.hid (Hid.out hbw)
      clear hr1 hr2 hy hbw hb1 hb2
      subst hA1 hA2
      go_wp2_with fail
      go_quiet (fail)
      go_wp2_with fail
      exact ⟨⟨i + 1, by omega, by go_num, It.below_drewN HBW.out _⟩, by simp [intOf] <;> omega⟩
    · have HB := Lib.hid (B9.out.trans ((Hid.out hbw).mono B9.out.size))
      clear hbw
      go_wp2
      go_ret
      exact ⟨rfl, HB.out⟩
end Go.Proofs.YtnfcgifkghegjaaGreatDoor.Nr
