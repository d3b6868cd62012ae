/- The walk of the law file's lives (node). -/
import Derived.Test.YtmibgdlmhjkpfaaDoorNdJ
import Derived.Test.YtmibgdlmhjkpfaaDoorNdG
namespace Go.Proofs.YtmibgdlmhjkpfaaDoor.Nd
set_option linter.unusedVariables false
set_option linter.unusedSimpArgs false
open Go.ChangeShapes Go.WideShapes Go.ChangeAt Go.RowKit
open Ar Rg
open BigFrame
open Pk (be num be_length u8s u8s_length)
open It (str_le below_drewN)
def x1 : It.Itm := ⟨⟨#[97]⟩, ⟨#[49]⟩⟩
def L1 : Nd := ⟨1, [x1], [], []⟩
def L0 : Nd := ⟨1, [], [], []⟩
def k1 : Kd := ⟨⟨#[97]⟩, 7, List.replicate 32 0⟩
def B1 : Nd := ⟨2, [], [k1], []⟩
set_option maxRecDepth 100000 in
theorem live1 : (openL (encN L1 ++ [120])).isNone = true := by decide +kernel
set_option maxRecDepth 100000 in
theorem live2 : (encN L1).length = 10 ∧ (encN L1).drop 4 = [1, 1, 1, 97, 1, 49] := by decide +kernel
set_option maxRecDepth 100000 in
theorem live3 : ckN L1 = 0 ∧ ckN L0 = 4 := by decide +kernel
theorem wd_L1 : Wd L1 := ⟨fun x hx => (by cases hx), fun x hx => (by cases hx)⟩
theorem wd_L0 : Wd L0 := ⟨fun x hx => (by cases hx), fun x hx => (by cases hx)⟩
theorem wd_B1 : Wd B1 := ⟨fun x hx => (by have : x = k1 := by simpa [B1] using hx
                                          rw [this]; decide), fun x hx => (by cases hx)⟩
theorem few_B1 : Few B1 := ⟨fun h => (by cases h), fun _ => ⟨by decide, fun x hx => (by have : x = k1 := by simpa [B1] using hx
                                                                                        rw [this]; decide)⟩, fun h => (by cases h)⟩
/-- a node in a variable, in block b -/
def NVar (w : World) (b : Nat) (cs : Array Value) (n : Nd) : Prop := w.heap[b]? = some (.cells cs 27 (0, 0)) ∧ NdAt w cs n
theorem NVar.below {w w' : World} {b : Nat} {cs : Array Value} {n : Nd} (h : NVar w b cs n) (hb : Below w.heap.size w w') : NVar w' b cs n := ⟨(hb.block b (row_lt h.1)).trans h.1, h.2.below hb⟩
theorem NVar.lt {w : World} {b : Nat} {cs : Array Value} {n : Nd} (h : NVar w b cs n) : b < w.heap.size := row_lt h.1
theorem NVar.info {w : World} {b : Nat} {cs : Array Value} {n : Nd} (h : NVar w b cs n) : (Tryd.prog.info? 27).map (·.size) = some cs.size := info4 h.2.size
theorem NdAt.one {w : World} {cs : Array Value} {n : Nd} (h : NdAt w cs n) : cs.all (·.oneCell') = true := by
  obtain ⟨AI, nI, cI, AK, nK, cK, AV, nV, cV, rfl, _⟩ := h; exact four_cells _ _ _ _ rfl rfl rfl rfl
theorem NdAt.nils {w : World} (kd : Nat) : NdAt w #[.int .u8 kd, zS, zS, zS] ⟨kd, [], [], []⟩ := ⟨none, 0, 0, none, 0, 0, none, 0, 0, rfl, rfl, rfl, rfl, Nat.zero_le _, Nat.zero_le _, Nat.zero_le _, Ls.nil, Ls.nil, Ls.nil⟩
/-- Decode's two answers -/
theorem decode_yes (d : ByteArray) (hd : d.size ≤ 9223372036854775807) {n : Nd} (h : decN d.data.toList = some n) (hs : n.I.length ≤ 255 ∧ n.K.length ≤ 255 ∧ n.V.length ≤ 255) (w : World) :
    Calls Tryd.prog 10 #[.string d] w fun e w' => ∃ cs, e = .returned (.tuple #[.agg cs, .int .i64 0]) ∧ NdOwn w w' cs n ∧ NdAt w' cs n := (decode_any d hd w).mono fun e w' hh => by
  obtain ⟨n', cs, he, ho, hn⟩ := hh
  rw [h] at he hn
  have hn : n' = n := hn
  subst hn
  exact ⟨cs, he, ho, ho.at_ (by omega) (by omega) (by omega)⟩
theorem decode_no (d : ByteArray) (hd : d.size ≤ 9223372036854775807) (h : decN d.data.toList = none) (w : World) :
    Calls Tryd.prog 10 #[.string d] w fun e w' => ∃ cs, e = .returned (.tuple #[.agg cs, .int .i64 9]) ∧ NdOwn w w' cs ⟨0, [], [], []⟩ ∧ NdAt w' cs ⟨0, [], [], []⟩ := (decode_any d hd w).mono fun e w' hh => by
  obtain ⟨n', cs, he, ho, hn⟩ := hh
  rw [h] at he hn
  have hn : n' = ⟨0, [], [], []⟩ := hn
  subst hn
  exact ⟨cs, he, ho, ho.at_ (Nat.zero_le _) (Nat.zero_le _) (Nat.zero_le _)⟩
theorem decN_small {d : List UInt8} {n : Nd} (h : decN d = some n) : Wd n ∧ n.I.length ≤ 255 ∧ n.K.length ≤ 255 ∧ n.V.length ≤ 255 := by
  unfold decN at h
  split at h
  · cases h
  · split at h
    · cases h
      have := tkN_fine (by assumption)
      exact ⟨this.1, this.2.1, this.2.2.1, this.2.2.2.1⟩
    · cases h
theorem encB_no {n : Nd} (h : ckN n ≠ 0) : encB n = ByteArray.empty := by unfold encB; rw [if_neg h]
theorem encB_yes {n : Nd} (h : ckN n = 0) : encB n = bs (encN n) := by unfold encB; rw [if_pos h]
set_option maxRecDepth 100000 in
theorem lives_at (w : World) : NdAt ((w.alloc (.cells #[.string ⟨#[97]⟩, .string ⟨#[49]⟩] 43)).alloc (.cells #[.int .u8 1, .slice (some ⟨w.heap.size, 0, none⟩) 1 1, zS, zS] 27)) #[.int .u8 1, .slice (some ⟨w.heap.size, 0, none⟩) 1 1, zS, zS] L1 := by
  refine ⟨some ⟨w.heap.size, 0, none⟩, 1, 1, none, 0, 0, none, 0, 0, rfl, rfl, rfl, rfl, by decide, by decide, by decide, ?_, Ls.nil, Ls.nil⟩
  have h := Ls.new (enc := It.enc) (k := 2) w x1 43 (w.alloc (.cells #[.string ⟨#[97]⟩, .string ⟨#[49]⟩] 43)).heap.size (by simp)
  exact (h.below ((Below.refl _ _).alloc (Nat.le_refl _) _)).more (by simp)
set_option maxRecDepth 100000 in
theorem lives_kid (w : World) : NdAt ((w.alloc (.cells (ecK k1).toArray 47)).alloc (.cells #[.int .u8 2, zS, .slice (some ⟨w.heap.size, 0, none⟩) 1 1, zS] 27)) #[.int .u8 2, zS, .slice (some ⟨w.heap.size, 0, none⟩) 1 1, zS] B1 := by
  refine ⟨none, 0, 0, some ⟨w.heap.size, 0, none⟩, 1, 1, none, 0, 0, rfl, rfl, rfl, rfl, by decide, by decide, by decide, Ls.nil, ?_, Ls.nil⟩
  have h := Ls.new (enc := ecK) (k := 34) w k1 47 (w.alloc (.cells (ecK k1).toArray 47)).heap.size (by simp)
  exact (h.below ((Below.refl _ _).alloc (Nat.le_refl _) _)).more (by simp)
set_option maxRecDepth 100000 in
set_option maxHeartbeats 8000000 in
theorem lives_true (w : World) : Calls Tryd.prog 8 #[] w fun e w' => e = .returned (.bool true) ∧ Below w.heap.size w w' := by
  obtain ⟨S, hS⟩ : ∃ S, bs (encN L1) = S := ⟨_, rfl⟩
  have HEB := Lib.hid (show encB L1 = S by rw [encB_yes live3.1, hS])
  have hlen : S.size = 10 := by rw [← hS, bs_size, live2.1]
  have HX := Lib.hid (show S.extract 4 S.size = ⟨#[1, 1, 1, 97, 1, 49]⟩ by rw [extract_bs, ← hS, bs_data, live2.2]; rfl)
  have HD1 := Lib.hid (show decN S.data.toList = some L1 by rw [← hS, bs_data]; exact dec_enc wd_L1 live3.1)
  have HD2 := Lib.hid (show decN (S ++ ⟨#[120]⟩).data.toList = none by
    have h := live1
    have e : (S ++ (⟨#[120]⟩ : ByteArray)).data.toList = encN L1 ++ [120] := by
      have := bs_app (encN L1) [120]
      rw [hS] at this
      rw [show (⟨#[120]⟩ : ByteArray) = bs [120] from rfl, this, bs_data]
    rw [e]
    unfold decN
    cases ho : openL (encN L1 ++ [120]) with
    | none => rfl
    | some l => rw [ho] at h; cases h)
  have HL := Lib.hid hlen
  have z1 : S.size ≤ 10 := by omega
  have z2 : 4 ≤ S.size := by omega
  have HC0 := Lib.hid (fun w' cs (h : NdAt w' cs L1) => (encode_any L1 wd_L1 cs w' h))
  rw [HEB.out, live3.1] at HC0
  have HC1 := Lib.hid (fun w' => decode_yes S (by omega) HD1.out (by decide) w')
  have HC2 := Lib.hid (fun w' => encode_any L0 wd_L0 #[.int .u8 (1 : Nat), zS, zS, zS] w' (NdAt.nils 1))
  rw [encB_no (n := L0) (by rw [live3.2]; decide), live3.2] at HC2
  have HC3 := Lib.hid (fun w' => decode_no (S ++ ⟨#[120]⟩) (by rw [ByteArray.size_append]; show S.size + 1 ≤ _; omega) HD2.out w')
  have HC4 := Lib.hid (fun w' cs (h : NdAt w' cs B1) => kids_any B1 wd_B1 (by decide) (by decide) cs w' h)
  have HC5 := Lib.hid (fun w' cs (h : NdAt w' cs B1) => size_any B1 few_B1 cs w' h)
  have HC6 := Lib.hid (fun w' cs ds (h : NdAt w' cs L1) (k : NdAt w' ds L1) => same_any L1 L1 wd_L1 wd_L1 cs ds w' h k)
  rw [(eqN_iff L1 L1).2 rfl] at HC6
  rw [show szN B1 = 40 by decide +kernel] at HC5
  have HKR := Lib.hid (show (#[.string ⟨#[97]⟩, .int .u32 7, .int .u8 0, .int .u8 0, .int .u8 0, .int .u8 0, .int .u8 0, .int .u8 0, .int .u8 0, .int .u8 0, .int .u8 0, .int .u8 0, .int .u8 0, .int .u8 0, .int .u8 0, .int .u8 0, .int .u8 0, .int .u8 0, .int .u8 0, .int .u8 0, .int .u8 0, .int .u8 0, .int .u8 0, .int .u8 0, .int .u8 0, .int .u8 0, .int .u8 0, .int .u8 0, .int .u8 0, .int .u8 0, .int .u8 0, .int .u8 0, .int .u8 0, .int .u8 0] : Array Value) = (ecK k1).toArray by kernel_rfl)
  clear hS hlen
  have HV1 := Lib.hid (show NVar _ (w.heap.size + 1) _ L1 from ⟨(by have := heap_alloc_new (w.alloc (.cells #[.string ⟨#[97]⟩, .string ⟨#[49]⟩] 43)) (.cells #[.int .u8 1, .slice (some ⟨w.heap.size, 0, none⟩) 1 1, zS, zS] 27); simpa using this), lives_at w⟩)
  have HB1 := Lib.hid (show Below w.heap.size w _ from (((Below.refl w.heap.size w).alloc (Nat.le_refl _) (.cells #[.string ⟨#[97]⟩, .string ⟨#[49]⟩] 43)).alloc (by simp) (.cells #[.int .u8 1, .slice (some ⟨w.heap.size, 0, none⟩) 1 1, zS, zS] 27)))
  go_enter Tryd.func8, Tryd.ntmps8
  go_wp2_with fail
  generalize (w.alloc _).alloc _ = W1 at *
  go_at_call 9
  refine (HC0.out _ _ HV1.out.2).mono ?_
  rintro e w2 ⟨rfl, hb2⟩
  have HV2 := Lib.hid (HV1.out.below hb2)
  have HB2 := Lib.hid (HB1.out.trans (hb2.mono HB1.out.size))
  clear hb2 HV1 HB1
  go_wp2_with fail
  go_at_call 10
  refine (HC1.out _).mono ?_
  rintro e w3 ⟨cs4, rfl, ho3, ha3⟩
  have HV3 := Lib.hid (HV2.out.below ho3.bel)
  have HB3 := Lib.hid (HB2.out.trans (ho3.bel.mono HB2.out.size))
  have HA3 := Lib.hid ha3
  clear ho3 ha3 HV2 HB2
  go_wp2_with (refine wpList_fresh rfl 27 (.tmp 4) (.tmp 23) rfl cs4 _ _ rfl rfl (info4 HA3.out.size) HA3.out.size.symm HA3.out.one ?_; intro w4 hb4 hr4 hz4; have HM4 := Lib.hid (show NVar w4 w3.heap.size cs4 L1 from ⟨hr4, HA3.out.below hb4⟩); have HV4 := Lib.hid (HV3.out.below hb4); have HB4 := Lib.hid (HB3.out.trans (hb4.mono HB3.out.size)); clear hb4 hr4 hz4 HV3 HB3)
  go_at_call 9
  refine (HC2.out _).mono ?_
  rintro e w5 ⟨rfl, hb5⟩
  have HV5 := Lib.hid (HV4.out.below hb5)
  have HM5 := Lib.hid (HM4.out.below hb5)
  have HB5 := Lib.hid (HB4.out.trans (hb5.mono HB4.out.size))
  clear hb5 HV4 HM4 HB4
  go_wp2_with fail
  go_at_call 10
  refine (HC3.out _).mono ?_
  rintro e w6 ⟨cs8, rfl, ho6, ha6⟩
  have HV6 := Lib.hid (HV5.out.below ho6.bel)
  have HM6 := Lib.hid (HM5.out.below ho6.bel)
  have HB6 := Lib.hid (HB5.out.trans (ho6.bel.mono HB5.out.size))
  have HA6 := Lib.hid ha6
  clear ho6 ha6 HV5 HM5 HB5
  go_wp2_with (refine wpList_fresh rfl 27 (.tmp 8) (.tmp 34) rfl cs8 _ _ rfl rfl (info4 HA6.out.size) HA6.out.size.symm HA6.out.one ?_; intro w7 hb7 hr7 hz7; have HV7 := Lib.hid (HV6.out.below hb7); have HM7 := Lib.hid (HM6.out.below hb7); have HB7 := Lib.hid (HB6.out.trans (hb7.mono HB6.out.size)); clear hb7 hr7 hz7 HV6 HM6 HB6)
  have hk8 := lives_kid w7
  have hr8 := heap_alloc_new (w7.alloc (.cells (ecK k1).toArray 47)) (.cells #[.int .u8 2, zS, .slice (some ⟨w7.heap.size, 0, none⟩) 1 1, zS] 27)
  have hb8 : Below w7.heap.size w7 ((w7.alloc (.cells (ecK k1).toArray 47)).alloc (.cells #[.int .u8 2, zS, .slice (some ⟨w7.heap.size, 0, none⟩) 1 1, zS] 27)) := ((Below.refl _ _).alloc (Nat.le_refl _) _).alloc (by simp) _
  rw [show (w7.alloc (.cells (ecK k1).toArray 47)).heap.size = w7.heap.size + 1 by simp] at hr8
  rw [← HKR.out] at hk8 hr8 hb8
  have HN8 := Lib.hid (show NVar _ (w7.heap.size + 1) _ B1 from ⟨hr8, hk8⟩)
  have HV8 := Lib.hid (HV7.out.below hb8)
  have HM8 := Lib.hid (HM7.out.below hb8)
  have HB8 := Lib.hid (HB7.out.trans (hb8.mono HB7.out.size))
  clear hk8 hr8 hb8 HV7 HM7 HB7
  generalize (w7.alloc _).alloc _ = w8 at *
  go_at_call 15
  refine (HC4.out _ _ HN8.out.2).mono ?_
  rintro e w9 ⟨v9, rfl, hm9⟩
  have HV9 := Lib.hid (HV8.out.below hm9.2)
  have HM9 := Lib.hid (HM8.out.below hm9.2)
  have HN9 := Lib.hid (HN8.out.below hm9.2)
  have HB9 := Lib.hid (HB8.out.trans (hm9.2.mono HB8.out.size))
  obtain ⟨A9, c9, rfl, hle9, _, hl9⟩ := hm9.ls (show ∀ x, (enU x).length = 1 from fun _ => rfl)
  rw [show kdN B1 = [7] from rfl] at hl9 hle9
  obtain ⟨b9, o9, hA9, hlt9, hr9⟩ := hl9 0 7 rfl
  subst hA9
  have hc9 : w9.cell? ⟨b9, o9, none⟩ = some (.int .u32 7) := by have := hr9 0 _ rfl; simpa using this
  have HC9 := Lib.hid hc9
  have HLT := Lib.hid hlt9
  rw [show (kdN B1).length = 1 from rfl]
  have hle : 1 ≤ c9 := hle9
  clear hm9 hl9 hr9 hlt9 hle9 hc9 HV8 HM8 HN8 HB8
  have hsz : ((S.size : Int) == 10) = true := by rw [HL.out]; rfl
  have hex := HX.out
  go_wp2_with (first
    | (refine wpList_load_row_g 27 (.tmp 1) rfl (by kernel_rfl) (w.heap.size + 1) rfl 27 _ (0, 0) _ HV9.out.1 Tryd.underlying27 rfl HV9.out.info ?_)
    | (refine wpList_load_row_g 27 (.tmp 4) rfl (by kernel_rfl) w3.heap.size rfl 27 cs4 (0, 0) _ HM9.out.1 Tryd.underlying27 rfl HM9.out.info ?_)
    | (go_at_call 11; refine (HC6.out _ _ _ HV9.out.2 HM9.out.2).mono ?_; rintro e w10 ⟨rfl, hb10⟩; have hc10 : w10.cell? ⟨b9, o9, none⟩ = some (.int .u32 7) := (hb10.cell (p := ⟨b9, o9, none⟩) HLT.out).trans HC9.out; have HN10 := Lib.hid (HN9.out.below hb10); have HB10 := Lib.hid (HB9.out.trans (hb10.mono HB9.out.size)); clear hb10)
    | (refine wpList_load_row_g 27 (.tmp 10) rfl (by kernel_rfl) (w7.heap.size + 1) rfl 27 _ (0, 0) _ HN10.out.1 Tryd.underlying27 rfl HN10.out.info ?_)
    | (go_at_call 13; refine (HC5.out _ _ HN10.out.2).mono ?_; rintro e w11 ⟨rfl, hb11, _⟩; have HB11 := Lib.hid (HB10.out.trans (hb11.mono HB10.out.size)); clear hb11))
  go_ret
  exact ⟨rfl, HB11.out⟩
end Go.Proofs.YtmibgdlmhjkpfaaDoor.Nd
