/- The walk of NodeBack. -/
import Derived.Test.YtmibgdlmhjkpfaaDoorNeB
namespace Go.Proofs.YtmibgdlmhjkpfaaDoor.Nd
set_option linter.unusedVariables false
set_option linter.unusedSimpArgs false
open Go.ChangeShapes Go.WideShapes Go.ChangeAt Go.RowKit
open Ar Rg
open BigFrame
open Pk (be num be_length u8s u8s_length)
open It (str_le below_drewN)
theorem wd_Z : Wd ⟨0, [], [], []⟩ := ⟨fun x hx => (by cases hx), fun x hx => (by cases hx)⟩
set_option maxRecDepth 100000 in
set_option maxHeartbeats 8000000 in
theorem nodeBack_walk (n : Nd) (hw : Wd n) (hsm : n.I.length ≤ 281474976710656 ∧ n.K.length ≤ 281474976710656 ∧ n.V.length ≤ 281474976710656) (d : ByteArray) (hd : d.size ≤ 9223372036854775807) (cs : Array Value) (w : World) (hn : NdAt w cs n) :
    Calls Tryd.prog 3 #[.agg cs, .string d] w fun e w' => e = .returned (.bool true) ∧ Below w.heap.size w w' := by
  obtain ⟨hv0, hb0⟩ := boxed hn
  have HV1 := Lib.hid hv0
  have HB1 := Lib.hid hb0
  have HLV := Lib.hid (fun w => lives_true w)
  have HC0 := Lib.hid (fun w' (h : NdAt w' cs n) => encode_any n hw cs w' h)
  clear hv0 hb0
  by_cases hc : ckN n = 0
  · obtain ⟨hl1, hl2⟩ := enc_len hw hc
    rw [encB_yes hc, hc] at HC0
    have hsn : n.I.length ≤ 255 ∧ n.K.length ≤ 255 ∧ n.V.length ≤ 255 := by
      have := (rt_fm hw (ck_zero.1 hc).1).few
      omega
    have HC1 := Lib.hid (fun w' => decode_yes (bs (encN n)) (by rw [bs_size]; omega) (show decN (bs (encN n)).data.toList = some n by rw [bs_data]; exact dec_enc hw hc) hsn w')
    have HC2 := Lib.hid (fun w' fs (h : NdAt w' cs n) (k : NdAt w' fs n) => same_any n n hw hw cs fs w' h k)
    rw [(eqN_iff n n).2 rfl] at HC2
    have q1 : decide ((512 : Int) < ((bs (encN n)).size : Int)) = false := by rw [decide_eq_false_iff_not, bs_size]; omega
    clear hl1 hl2 hc hsn hsm
    generalize bs (encN n) = S at *
    cases hdn : decN d.data.toList with
    | none =>
      have HDN := Lib.hid (fun w' => decode_no d hd hdn w')
      clear hdn
      go_enter Tryd.func3, Tryd.ntmps3
      go_wp2_with (first
        | (go_at_call 8; refine (HLV.out _).mono ?_; rintro e w2 ⟨rfl, hb2⟩; have HV2 := Lib.hid (HV1.out.below hb2); have HB2 := Lib.hid (HB1.out.trans (hb2.mono HB1.out.size)); clear hb2)
        | (refine wpList_load_row rfl 27 (.tmp 2) rfl (w.heap.size) rfl 27 cs (0, 0) _ HV2.out.1 Tryd.underlying27 rfl HV2.out.info ?_)
        | (go_at_call 9; refine (HC0.out _ HV2.out.2).mono ?_; rintro e w3 ⟨rfl, hb3⟩; have HV3 := Lib.hid (HV2.out.below hb3); have HB3 := Lib.hid (HB2.out.trans (hb3.mono HB2.out.size)); clear hb3 HV2)
        | (go_at_call 10; (with_reducible refine (HC1.out _).mono ?_); rintro e w4 ⟨fs, rfl, ho, ha⟩; have HV4 := Lib.hid (HV3.out.below ho.bel); have HB4 := Lib.hid (HB3.out.trans (ho.bel.mono HB3.out.size)); have HA4 := Lib.hid ha; clear ho ha HV3)
        | (refine wpList_fresh rfl 27 (.tmp 7) (.tmp 24) rfl fs _ _ rfl rfl (info4 HA4.out.size) HA4.out.size.symm HA4.out.one ?_; intro w5 hb hr hz; have HM5 := Lib.hid (show NVar w5 w4.heap.size fs _ from ⟨hr, HA4.out.below hb⟩); have HV5 := Lib.hid (HV4.out.below hb); have HB5 := Lib.hid (HB4.out.trans (hb.mono HB4.out.size)); clear hb hr hz HA4)
        | (refine wpList_load_row_g 27 (.tmp 2) rfl (by kernel_rfl) (w.heap.size) rfl 27 cs (0, 0) _ HV5.out.1 Tryd.underlying27 rfl HV5.out.info ?_)
        | (refine wpList_load_row_g 27 (.tmp 7) rfl (by kernel_rfl) (w4.heap.size) rfl 27 fs (0, 0) _ HM5.out.1 Tryd.underlying27 rfl HM5.out.info ?_)
        | (go_at_call 11; refine (HC2.out _ _ HV5.out.2 HM5.out.2).mono ?_; rintro e w6 ⟨rfl, hb6⟩; have HB6 := Lib.hid (HB5.out.trans (hb6.mono HB5.out.size)); clear hb6 HM5)
        | (go_at_call 10; (with_reducible refine (HDN.out _).mono ?_); rintro e y1 ⟨es, rfl, ho, ha⟩; have HY1 := Lib.hid (HB6.out.trans (ho.bel.mono HB6.out.size)); have HQ1 := Lib.hid ha; have HE1 := Lib.hid ho.one; clear ho ha)
        | (refine wpList_fresh rfl 27 (.tmp 9) (.tmp 42) rfl es _ _ rfl rfl (info4 HQ1.out.size) HQ1.out.size.symm HQ1.out.one ?_; intro y2 hb hr hz; have HU2 := Lib.hid (show NVar y2 y1.heap.size es _ from ⟨hr, HQ1.out.below hb⟩); have HY2 := Lib.hid (HY1.out.trans (hb.mono HY1.out.size)); clear hb hr hz HQ1)
        | (refine wpList_load_row_g 27 (.tmp 9) rfl (by kernel_rfl) (y1.heap.size) rfl 27 es (0, 0) _ HU2.out.1 Tryd.underlying27 rfl HU2.out.info ?_)
        | (go_at_call 11; refine (same_any ⟨0, [], [], []⟩ ⟨0, [], [], []⟩ wd_Z wd_Z es #[.int .u8 0, zS, zS, zS] _ HU2.out.2 (NdAt.nils 0)).mono ?_; rw [(eqN_iff ⟨0, [], [], []⟩ ⟨0, [], [], []⟩).2 rfl]; rintro e y3 ⟨rfl, hb⟩; have HY3 := Lib.hid (HY2.out.trans (hb.mono HY2.out.size)); clear hb))
      go_ret
      exact ⟨rfl, HY3.out⟩
    | some k =>
      obtain ⟨hck, hfm, hed⟩ := enc_dec hdn
      obtain ⟨hwk, hlk⟩ := decN_small hdn
      have HDN := Lib.hid (fun w' => decode_yes d hd hdn hlk w')
      have HEK := Lib.hid (fun w' es (h : NdAt w' es k) => encode_any k hwk es w' h)
      rw [encB_yes hck, hed, data_bs, hck] at HEK
      have HCK := Lib.hid (fun w' es (h : NdAt w' es k) => check_any k hwk es w' h)
      rw [hck] at HCK
      clear hdn hck hfm hed hwk hlk
      go_enter Tryd.func3, Tryd.ntmps3
      go_wp2_with (first
        | (go_at_call 8; refine (HLV.out _).mono ?_; rintro e w2 ⟨rfl, hb2⟩; have HV2 := Lib.hid (HV1.out.below hb2); have HB2 := Lib.hid (HB1.out.trans (hb2.mono HB1.out.size)); clear hb2)
        | (refine wpList_load_row rfl 27 (.tmp 2) rfl (w.heap.size) rfl 27 cs (0, 0) _ HV2.out.1 Tryd.underlying27 rfl HV2.out.info ?_)
        | (go_at_call 9; refine (HC0.out _ HV2.out.2).mono ?_; rintro e w3 ⟨rfl, hb3⟩; have HV3 := Lib.hid (HV2.out.below hb3); have HB3 := Lib.hid (HB2.out.trans (hb3.mono HB2.out.size)); clear hb3 HV2)
        | (go_at_call 10; (with_reducible refine (HC1.out _).mono ?_); rintro e w4 ⟨fs, rfl, ho, ha⟩; have HV4 := Lib.hid (HV3.out.below ho.bel); have HB4 := Lib.hid (HB3.out.trans (ho.bel.mono HB3.out.size)); have HA4 := Lib.hid ha; clear ho ha HV3)
        | (refine wpList_fresh rfl 27 (.tmp 7) (.tmp 24) rfl fs _ _ rfl rfl (info4 HA4.out.size) HA4.out.size.symm HA4.out.one ?_; intro w5 hb hr hz; have HM5 := Lib.hid (show NVar w5 w4.heap.size fs _ from ⟨hr, HA4.out.below hb⟩); have HV5 := Lib.hid (HV4.out.below hb); have HB5 := Lib.hid (HB4.out.trans (hb.mono HB4.out.size)); clear hb hr hz HA4)
        | (refine wpList_load_row_g 27 (.tmp 2) rfl (by kernel_rfl) (w.heap.size) rfl 27 cs (0, 0) _ HV5.out.1 Tryd.underlying27 rfl HV5.out.info ?_)
        | (refine wpList_load_row_g 27 (.tmp 7) rfl (by kernel_rfl) (w4.heap.size) rfl 27 fs (0, 0) _ HM5.out.1 Tryd.underlying27 rfl HM5.out.info ?_)
        | (go_at_call 11; refine (HC2.out _ _ HV5.out.2 HM5.out.2).mono ?_; rintro e w6 ⟨rfl, hb6⟩; have HB6 := Lib.hid (HB5.out.trans (hb6.mono HB5.out.size)); clear hb6 HM5)
        | (go_at_call 10; (with_reducible refine (HDN.out _).mono ?_); rintro e y1 ⟨es, rfl, ho, ha⟩; have HY1 := Lib.hid (HB6.out.trans (ho.bel.mono HB6.out.size)); have HQ1 := Lib.hid ha; have HE1 := Lib.hid ho.one; clear ho ha)
        | (refine wpList_fresh rfl 27 (.tmp 9) (.tmp 42) rfl es _ _ rfl rfl (info4 HQ1.out.size) HQ1.out.size.symm HQ1.out.one ?_; intro y2 hb hr hz; have HU2 := Lib.hid (show NVar y2 y1.heap.size es _ from ⟨hr, HQ1.out.below hb⟩); have HY2 := Lib.hid (HY1.out.trans (hb.mono HY1.out.size)); clear hb hr hz HQ1)
        | (refine wpList_load_row rfl 27 (.tmp 9) rfl (y1.heap.size) rfl 27 es (0, 0) _ HU2.out.1 Tryd.underlying27 rfl HU2.out.info ?_)
        | (go_at_call 9; refine (HEK.out _ _ HU2.out.2).mono ?_; rintro e y3 ⟨rfl, hb⟩; have HU3 := Lib.hid (HU2.out.below hb); have HY3 := Lib.hid (HY2.out.trans (hb.mono HY2.out.size)); clear hb HU2)
        | (refine wpList_load_row_g 27 (.tmp 9) rfl (by kernel_rfl) (y1.heap.size) rfl 27 es (0, 0) _ HU3.out.1 Tryd.underlying27 rfl HU3.out.info ?_)
        | (go_at_call 12; refine (HCK.out _ _ HU3.out.2).mono ?_; rintro e y4 ⟨rfl, hb⟩; have HY4 := Lib.hid (HY3.out.trans (hb.mono HY3.out.size)); clear hb))
      go_ret
      exact ⟨rfl, HY4.out⟩
  · rw [encB_no hc] at HC0
    have q1 : ((ckN n : Int) == 0) = false := by rw [beq_eq_false_iff_ne]; exact hc
    generalize ckN n = C at *
    clear hc hsm
    cases hdn : decN d.data.toList with
    | none =>
      have HDN := Lib.hid (fun w' => decode_no d hd hdn w')
      clear hdn
      go_enter Tryd.func3, Tryd.ntmps3
      go_wp2_with (first
        | (go_at_call 8; refine (HLV.out _).mono ?_; rintro e w2 ⟨rfl, hb2⟩; have HV2 := Lib.hid (HV1.out.below hb2); have HB2 := Lib.hid (HB1.out.trans (hb2.mono HB1.out.size)); clear hb2)
        | (refine wpList_load_row rfl 27 (.tmp 2) rfl (w.heap.size) rfl 27 cs (0, 0) _ HV2.out.1 Tryd.underlying27 rfl HV2.out.info ?_)
        | (go_at_call 9; refine (HC0.out _ HV2.out.2).mono ?_; rintro e w3 ⟨rfl, hb3⟩; have HV3 := Lib.hid (HV2.out.below hb3); have HB3 := Lib.hid (HB2.out.trans (hb3.mono HB2.out.size)); clear hb3 HV2)
        | (go_at_call 10; (with_reducible refine (HDN.out _).mono ?_); rintro e y1 ⟨es, rfl, ho, ha⟩; have HY1 := Lib.hid (HB3.out.trans (ho.bel.mono HB3.out.size)); have HQ1 := Lib.hid ha; have HE1 := Lib.hid ho.one; clear ho ha)
        | (refine wpList_fresh rfl 27 (.tmp 9) (.tmp 42) rfl es _ _ rfl rfl (info4 HQ1.out.size) HQ1.out.size.symm HQ1.out.one ?_; intro y2 hb hr hz; have HU2 := Lib.hid (show NVar y2 y1.heap.size es _ from ⟨hr, HQ1.out.below hb⟩); have HY2 := Lib.hid (HY1.out.trans (hb.mono HY1.out.size)); clear hb hr hz HQ1)
        | (refine wpList_load_row_g 27 (.tmp 9) rfl (by kernel_rfl) (y1.heap.size) rfl 27 es (0, 0) _ HU2.out.1 Tryd.underlying27 rfl HU2.out.info ?_)
        | (go_at_call 11; refine (same_any ⟨0, [], [], []⟩ ⟨0, [], [], []⟩ wd_Z wd_Z es #[.int .u8 0, zS, zS, zS] _ HU2.out.2 (NdAt.nils 0)).mono ?_; rw [(eqN_iff ⟨0, [], [], []⟩ ⟨0, [], [], []⟩).2 rfl]; rintro e y3 ⟨rfl, hb⟩; have HY3 := Lib.hid (HY2.out.trans (hb.mono HY2.out.size)); clear hb))
      go_ret
      exact ⟨rfl, HY3.out⟩
    | some k =>
      obtain ⟨hck, hfm, hed⟩ := enc_dec hdn
      obtain ⟨hwk, hlk⟩ := decN_small hdn
      have HDN := Lib.hid (fun w' => decode_yes d hd hdn hlk w')
      have HEK := Lib.hid (fun w' es (h : NdAt w' es k) => encode_any k hwk es w' h)
      rw [encB_yes hck, hed, data_bs, hck] at HEK
      have HCK := Lib.hid (fun w' es (h : NdAt w' es k) => check_any k hwk es w' h)
      rw [hck] at HCK
      clear hdn hck hfm hed hwk hlk
      go_enter Tryd.func3, Tryd.ntmps3
      go_wp2_with (first
        | (go_at_call 8; refine (HLV.out _).mono ?_; rintro e w2 ⟨rfl, hb2⟩; have HV2 := Lib.hid (HV1.out.below hb2); have HB2 := Lib.hid (HB1.out.trans (hb2.mono HB1.out.size)); clear hb2)
        | (refine wpList_load_row rfl 27 (.tmp 2) rfl (w.heap.size) rfl 27 cs (0, 0) _ HV2.out.1 Tryd.underlying27 rfl HV2.out.info ?_)
        | (go_at_call 9; refine (HC0.out _ HV2.out.2).mono ?_; rintro e w3 ⟨rfl, hb3⟩; have HV3 := Lib.hid (HV2.out.below hb3); have HB3 := Lib.hid (HB2.out.trans (hb3.mono HB2.out.size)); clear hb3 HV2)
        | (go_at_call 10; (with_reducible refine (HDN.out _).mono ?_); rintro e y1 ⟨es, rfl, ho, ha⟩; have HY1 := Lib.hid (HB3.out.trans (ho.bel.mono HB3.out.size)); have HQ1 := Lib.hid ha; have HE1 := Lib.hid ho.one; clear ho ha)
        | (refine wpList_fresh rfl 27 (.tmp 9) (.tmp 42) rfl es _ _ rfl rfl (info4 HQ1.out.size) HQ1.out.size.symm HQ1.out.one ?_; intro y2 hb hr hz; have HU2 := Lib.hid (show NVar y2 y1.heap.size es _ from ⟨hr, HQ1.out.below hb⟩); have HY2 := Lib.hid (HY1.out.trans (hb.mono HY1.out.size)); clear hb hr hz HQ1)
        | (refine wpList_load_row rfl 27 (.tmp 9) rfl (y1.heap.size) rfl 27 es (0, 0) _ HU2.out.1 Tryd.underlying27 rfl HU2.out.info ?_)
        | (go_at_call 9; refine (HEK.out _ _ HU2.out.2).mono ?_; rintro e y3 ⟨rfl, hb⟩; have HU3 := Lib.hid (HU2.out.below hb); have HY3 := Lib.hid (HY2.out.trans (hb.mono HY2.out.size)); clear hb HU2)
        | (refine wpList_load_row_g 27 (.tmp 9) rfl (by kernel_rfl) (y1.heap.size) rfl 27 es (0, 0) _ HU3.out.1 Tryd.underlying27 rfl HU3.out.info ?_)
        | (go_at_call 12; refine (HCK.out _ _ HU3.out.2).mono ?_; rintro e y4 ⟨rfl, hb⟩; have HY4 := Lib.hid (HY3.out.trans (hb.mono HY3.out.size)); clear hb))
      go_ret
      exact ⟨rfl, HY4.out⟩
end Go.Proofs.YtmibgdlmhjkpfaaDoor.Nd
