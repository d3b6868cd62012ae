/- Package stream: what a stream's bytes say. Written by mk_sez.py. -/
import Derived.Test.YtjkmfonngbendaaGreatDoorReg
import Derived.Test.YtjkmfonngbendaaGreatDoorItA
import Derived.Test.YtjkmfonngbendaaGreatDoorItB
import Derived.Test.YtjkmfonngbendaaGreatDoorChA
import Derived.Test.YtjkmfonngbendaaGreatDoorPackB
import Derived.Test.YtjkmfonngbendaaGreatDoorGb1
import Derived.Test.YtjkmfonngbendaaGreatDoorGb2
import Derived.Test.YtjkmfonngbendaaGreatDoorGb3
import Derived.ChangeKeysEq
import Derived.Lib.SmallJoins
import Derived.JoinedCond
import Derived.LaidLaws
import Derived.Handed
namespace Go.Proofs.YtjkmfonngbendaaGreatDoor.Se
set_option linter.unusedVariables false
set_option linter.unusedSimpArgs false
set_option maxRecDepth 100000
open Go.ChangeShapes Go.WideShapes Go.ChangeAt Go.RowKit
open BigFrame
open Ar Rg
open Pk (be num be_length num_lt u8s u8s_length crc)
open Nd (S tkNum tkBytes bs)
open Di (Off)
open It (Itm Ch rt itm)
open Ino (results_row2 emp_of)
def zPa : Array Value := #[.int .u8 0, .int .u8 0, .int .u8 0, .int .u8 0, .int .u8 0, .int .u8 0, .int .u8 0, .int .u8 0, .int .u8 0, .int .u8 0, .int .u8 0, .int .u8 0, .int .u8 0, .int .u8 0, .int .u8 0, .int .u8 0, .int .u8 0, .int .u8 0, .int .u8 0, .int .u8 0, .int .u8 0, .int .u8 0, .int .u8 0, .int .u8 0, .int .u8 0, .int .u8 0, .int .u8 0, .int .u8 0, .int .u8 0, .int .u8 0, .int .u8 0, .int .u8 0, .slice none 0 0]
def z32 : List UInt8 := List.replicate 32 0
theorem zPa_eq : zPa = (u8s z32 ++ [Value.slice none 0 0]).toArray := rfl
theorem szP {H : List UInt8} {v : Value} (h : H.length = 32) : (u8s H ++ [v]).toArray.size = 33 := by rw [List.size_toArray, List.length_append, u8s_length, h]; rfl
theorem infoPa {C : Array Value} (h : C.size = 33) : (Tryz.prog.info? 106).map (·.size) = some C.size := by rw [h]; kernel_rfl
theorem onePa {H : List UInt8} {A : Option Addr} {n c : Nat} : (u8s H ++ [Value.slice A n c]).toArray.all (·.oneCell') = true := by
  rw [List.all_toArray, List.all_append]
  have : (u8s H).all (·.oneCell') = true := List.all_eq_true.2 fun u hu => by
    unfold u8s at hu
    obtain ⟨b, _, rfl⟩ := List.mem_map.1 hu
    rfl
  rw [this]; rfl
theorem Pa.set32 {w : World} {p : Nat} {H : List UInt8} {v u : Value} (h : Pa w p H v) (hl : H.length = 32) : Pa (w.setCell ⟨p, 32, none⟩ u) p H u := by
  unfold Pa at h ⊢
  have e : (u8s H ++ [u]).toArray = (u8s H ++ [v]).toArray.setIfInBounds 32 u := by
    rw [List.setIfInBounds_toArray, List.set_append_right _ _ (by rw [u8s_length, hl]; exact Nat.le_refl _), u8s_length, hl]; rfl
  rw [e]
  simp [World.setCell, h, Array.getElem?_modify]
theorem Pa.c32 {w : World} {p : Nat} {H : List UInt8} {v : Value} (h : Pa w p H v) (hl : H.length = 32) : w.cell? ⟨p, 32, none⟩ = some v := (cell_of_row _ _ 32 _ _ _ h).trans (by rw [List.getElem?_toArray, List.getElem?_append_right (by rw [u8s_length, hl]; exact Nat.le_refl _), u8s_length, hl]; rfl)
theorem base_len (s : S) : (baseOf s).length = 32 := by
  unfold baseOf
  rw [List.length_append, List.length_take, List.length_replicate]; omega
theorem hd_len (l : List UInt8) : (hd l).1.length ≤ l.length := by
  unfold hd
  split
  · show (l.drop 2).length ≤ _; rw [List.length_drop]; omega
  · exact Nat.le_refl _
theorem s2_len (l : List UInt8) : (s2 l).1.length ≤ l.length := by
  have := hd_len l
  unfold s2 tkB
  show ((hd l).1.drop 32).length ≤ _
  rw [List.length_drop]; omega
/-- where a list of changes lies -/
def LsC (w : World) (v : Value) (D : List Ch) : Prop := ∃ A n c, v = .slice A n c ∧ n = D.length ∧ n ≤ c ∧ c ≤ maxLen ∧ Ls Sc.enc 3 w w.heap.size A D
theorem LsC.nil (w : World) : LsC w (.slice none 0 0) [] := ⟨_, _, _, rfl, rfl, Nat.le_refl _, Nat.zero_le _, Ls.nil⟩
/-- what is taken of a stream's bytes -/
def TkP (l : List UInt8) (w : World) (e : Ending) (w' : World) : Prop := ∃ (H : List UInt8) (v : Value) (D : List Ch) (ok : Bool), e = .returned (.tuple #[.agg (u8s H ++ [v]).toArray, .bool ok]) ∧ H.length = 32 ∧ LsC w' v D ∧ D.length ≤ l.length ∧ Below w.heap.size w w' ∧
  ((ok = true ∧ tkn l = some (H, D)) ∨ (ok = false ∧ tkn l = none ∧ H = z32 ∧ v = .slice none 0 0 ∧ D = []))
theorem TkP.no {l : List UInt8} {w w' : World} {e : Ending} (h : tkn l = none) (he : e = .returned (.tuple #[.agg zPa, .bool false])) (hb : Below w.heap.size w w') : TkP l w e w' :=
  ⟨z32, _, [], false, by rw [he, zPa_eq], rfl, LsC.nil _, Nat.zero_le _, hb, .inr ⟨rfl, h, rfl, rfl, rfl⟩⟩
theorem tkn_smB {l : List UInt8} (h : smB l = false) : tkn l = none := by
  unfold smB at h
  unfold tkn
  split
  · rfl
  · rename_i h4
    rw [if_neg h4] at h
    rw [if_neg (of_decide_eq_false h)]
theorem tkn_ok {l : List UInt8} (h : smB l = true) : tkn l = if okB (smT l) then some (baseOf (hd (smT l)), (s4 (smT l)).1) else none := by
  unfold smB at h
  by_cases h4 : l.length < 4
  · rw [if_pos h4] at h; cases h
  · rw [if_neg h4] at h
    unfold tkn smT
    rw [if_neg h4, if_neg h4, if_pos (of_decide_eq_true h)]
theorem smT_len (l : List UInt8) : (smT l).length ≤ l.length := by
  unfold smT
  split
  · exact Nat.zero_le _
  · rw [List.length_take]; omega
theorem cs_len : ∀ (n : Nat) (s : S), (tkCs n s).1.length + (tkCs n s).2.1.length ≤ (tkCs n s).1.length + s.1.length ∧ (tkCs n s).1.length ≤ s.1.length
  | 0, s => ⟨Nat.le_refl _, Nat.zero_le _⟩
  | n + 1, s => by
    rw [tkCs]
    by_cases h : (tkC s).2.2 = true
    · rw [if_pos h]
      refine ⟨?_, Nat.zero_le _⟩
      have h1 := num_le 1 s
      have h2 := txt_le (tkNum 1 s).2
      have h3 := txt_le (tkT (tkNum 1 s).2).2
      show 0 + (tkC s).2.1.length ≤ 0 + s.1.length
      unfold tkC
      split
      · dsimp only; omega
      · split
        · dsimp only; omega
        · dsimp only; omega
    · rw [if_neg h]
      have h1 := (tkC_less (s := s) (by simpa using h)).2
      obtain ⟨i1, i2⟩ := cs_len n (tkC s).2
      dsimp only
      rw [List.length_cons]
      omega
theorem s4_len (l : List UInt8) : (s4 l).1.length ≤ l.length := by
  have h1 := (cs_len (cnt l) (tkNum 4 (s2 l)).2).2
  have h2 := num_le 4 (s2 l)
  have h3 := s2_len l
  unfold s4
  omega
/-- where the taking stands -/
structure Tq (w W : World) (Z : Array Value) (p : Nat) (s : S) (H : List UInt8) (v : Value) : Prop where
  t : Ta W (p + 1) s
  q : Pa W p H v
  r : W.heap[w.heap.size]? = some (.cells Z 106 (0, 0))
  b : Below w.heap.size w W
  g : w.heap.size < p
theorem Tq.step {w W W' : World} {Z : Array Value} {p : Nat} {s s' : S} {H H' : List UInt8} {v v' : Value} (h : Tq w W Z p s H v) (ht : Ta W' (p + 1) s') (hq : Pa W' p H' v') (ho : Off (fun j => j = p + 1 ∨ j = p) W W') : Tq w W' Z p s' H' v' :=
  ⟨ht, hq, (ho.block _ (Array.getElem?_eq_some_iff.1 h.r).1 (by have := h.g; omega)).trans h.r, h.b.trans (ho.below h.b.size (fun j hj => by have := h.g; omega)), h.g⟩
theorem Tq.one {w W W' : World} {Z : Array Value} {p : Nat} {s s' : S} {H : List UInt8} {v : Value} (h : Tq w W Z p s H v) (ht : Ta W' (p + 1) s') (ho : Off (fun j => j = p + 1) W W') : Tq w W' Z p s' H v :=
  h.step ht (h.q.off ho (by omega)) (Di.Off.wide ho (fun j hj => .inl hj))
theorem Tq.store {w W : World} {Z : Array Value} {p : Nat} {s : S} {H : List UInt8} {v u : Value} (h : Tq w W Z p s H v) (hl : H.length = 32) : Tq w (W.setCell ⟨p, 32, none⟩ u) Z p s H u :=
  h.step (h.t.off (off_set W p 32 u) (by omega)) (h.q.set32 hl) (Di.Off.wide (off_set W p 32 u) (fun j hj => .inr hj))
set_option maxHeartbeats 16000000 in
theorem taken_any (l : List UInt8) (hl : l.length ≤ 1099511627775) (w : World) :
    Calls Tryz.prog 57 #[.string (bs l)] w (TkP l w) := by
  have HSM := Lib.hid (fun w => summed_any l (by omega) w)
  have hb0 := (Below.refl w.heap.size w).alloc (Nat.le_refl _) (.cells zPa 106)
  have HB0 := Lib.hid hb0
  have HR0 := Lib.hid (heap_alloc_new w (.cells zPa 106))
  obtain ⟨body, hbody⟩ : ∃ b, smT l = b := ⟨_, rfl⟩
  have HLB := Lib.hid (show body.length ≤ 1099511627775 by have := smT_len l; rw [hbody] at this; omega)
  have HLL := Lib.hid (show body.length ≤ l.length by have := smT_len l; rw [hbody] at this; exact this)
  obtain ⟨ok, hok⟩ : ∃ b, smB l = b := ⟨_, rfl⟩
  rw [hbody, hok] at HSM
  clear hb0 hl
  cases ok with
  | false =>
    have HT := Lib.hid (tkn_smB hok)
    obtain ⟨Z, hZ⟩ : ∃ Z : Array Value, zPa = Z := ⟨_, rfl⟩
    have HZ := Lib.hid hZ
    have HIZ := Lib.hid (show (Tryz.prog.info? 106).map (·.size) = some Z.size by rw [← hZ]; kernel_rfl)
    have HOZ := Lib.hid (show Z.all (·.oneCell') = true by rw [← hZ, zPa_eq]; exact onePa)
    rw [hZ] at HB0 HR0
    delta zPa at hZ
    clear hok hbody
    go_enter Tryz.func57, Tryz.ntmps57
    go_wp2_with fail
    (with_reducible refine (HSM.out _).mono ?_)
    rintro e w1 ⟨rfl, hb1⟩
    have B1 := Lib.hid (HB0.out.trans (hb1.mono HB0.out.size))
    have R1 := Lib.hid ((hb1.block w.heap.size (Array.getElem?_eq_some_iff.1 HR0.out).1).trans HR0.out)
    clear hb1 HSM HB0 HR0
    go_wp2_with (refine wpList_store_row rfl 106 (.tmp 2) (.tmp 15) rfl w.heap.size Z rfl rfl 106 Z R1.out HIZ.out rfl HOZ.out ?_)
    have hg2 := setRow_heap _ w.heap.size _ Z _ _ R1.out
    try simp only [Exit.inBlock, Exit.then]
    refine bodyPost_ret (v := .tuple #[.agg Z, .bool false]) (results_row2 rfl _ _ w.heap.size 106 Z (0, 0) _ rfl hg2 Tryz.underlying106 rfl HIZ.out _ rfl) rfl ?_
    exact TkP.no (HT.out) (by rw [HZ.out]) (Ino.below_setRow B1.out (Nat.le_refl _) _)
  | true =>
    have HTK := Lib.hid (show tkn l = if okB body then some (baseOf (hd body), (s4 body).1) else none by have := tkn_ok hok; rwa [hbody] at this)
    have HOK := Lib.hid (show okB body = (!(s4 body).2.2 && ((s4 body).2.1.isEmpty && rt ((s4 body).1.map itm))) from rfl)
    have HS4 := Lib.hid (show chsS (s2 body) = s4 body from rfl)
    have HLS := Lib.hid (s4_len body)
    have HL2 := Lib.hid (s2_len body)
    have HLH := Lib.hid (base_len (hd body))
    have HHD := Lib.hid (hd_len body)
    have hdd : s2 body = tkB (hd body) := rfl
    obtain ⟨Z, hZ⟩ : ∃ Z : Array Value, zPa = Z := ⟨_, rfl⟩
    have HZ := Lib.hid hZ
    have HIZ := Lib.hid (show (Tryz.prog.info? 106).map (·.size) = some Z.size by rw [← hZ]; kernel_rfl)
    have HOZ := Lib.hid (show Z.all (·.oneCell') = true by rw [← hZ, zPa_eq]; exact onePa)
    rw [hZ] at HB0 HR0
    delta zPa at hZ
    clear hok hbody
    go_enter Tryz.func57, Tryz.ntmps57
    go_wp2_with fail
    (with_reducible refine (HSM.out _).mono ?_)
    rintro e w1 ⟨rfl, hb1⟩
    have B1 := Lib.hid (HB0.out.trans (hb1.mono HB0.out.size))
    have R1 := Lib.hid ((hb1.block w.heap.size (Array.getElem?_eq_some_iff.1 HR0.out).1).trans HR0.out)
    clear hb1 HSM HB0 HR0
    obtain ⟨p, hp⟩ : ∃ p, w1.heap.size = p := ⟨_, rfl⟩
    have ha := (Below.refl w1.heap.size w1).alloc (Nat.le_refl _) (.cells Z 106)
    have hn := heap_alloc_new w1 (.cells Z 106)
    have hsz : (w1.alloc (.cells Z 106)).heap.size = p + 1 := by simp [hp]
    have hb := (Below.refl (w1.alloc (.cells Z 106)).heap.size (w1.alloc (.cells Z 106))).alloc (Nat.le_refl _) (.cells #[.string (bs body), .bool false] 171)
    have hn2 := heap_alloc_new (w1.alloc (.cells Z 106)) (.cells #[.string (bs body), .bool false] 171)
    rw [hsz] at hn2
    have HG := Lib.hid (show w.heap.size < p by rw [← hp]; exact (Array.getElem?_eq_some_iff.1 R1.out).1)
    have T2 := Lib.hid (show Ta ((w1.alloc (.cells Z 106)).alloc (.cells #[.string (bs body), .bool false] 171)) (p + 1) (body, false) from hn2)
    have P2 := Lib.hid (show Pa ((w1.alloc (.cells Z 106)).alloc (.cells #[.string (bs body), .bool false] 171)) p z32 (.slice none 0 0) from (hb.block p (by rw [hsz]; exact Nat.lt_succ_self _)).trans (by rw [← hp, hn, ← HZ.out, zPa_eq]))
    have R2 := Lib.hid ((hb.block w.heap.size (by rw [hsz]; have := HG.out; omega)).trans ((ha.block w.heap.size (by rw [hp]; exact HG.out)).trans R1.out))
    have B2 := Lib.hid ((B1.out.trans (ha.mono B1.out.size)).trans (hb.mono (by rw [hsz, ← hp]; exact Nat.le_succ_of_le B1.out.size)))
    have Q2 := Lib.hid (show Tq w ((w1.alloc (.cells Z 106)).alloc (.cells #[.string (bs body), .bool false] 171)) Z p (body, false) z32 (.slice none 0 0) from ⟨T2.out, P2.out, R2.out, B2.out, HG.out⟩)
    have HC2 := Lib.hid (beginning_ta T2.out)
    clear ha hn hsz hb hn2 R1 B1 T2 P2 R2 B2
    go_wp2_with fail
    generalize (w1.alloc (.cells Z 106)).alloc (.cells #[.string (bs body), .bool false] 171) = W2 at *
    (with_reducible refine HC2.out.mono ?_)
    rintro e w3 ⟨rfl, ht, ho⟩
    have Q3 := Lib.hid (Q2.out.one ht ho)
    have HC3 := Lib.hid (hash_ta Q3.out.t Q3.out.q (by have := HHD.out; have := HLB.out; omega))
    clear ht ho HC2 Q2
    go_wp2_with fail
    (with_reducible refine HC3.out.mono ?_)
    rintro e w4 ⟨rfl, ht, hq, ho⟩
    have Q4 := Lib.hid (Q3.out.step ht hq ho)
    rw [← hdd] at Q4
    have HC4 := Lib.hid (changes_ta Q4.out.t (by have := HL2.out; have := HLB.out; omega))
    rw [HS4.out] at HC4
    obtain ⟨H, hH⟩ : ∃ H, baseOf (hd body) = H := ⟨_, rfl⟩
    obtain ⟨⟨D, sr, sw⟩, hD⟩ : ∃ q, s4 body = q := ⟨_, rfl⟩
    rw [hH] at Q4 HTK HLH
    rw [hD] at HC4 HTK HOK HLS
    dsimp only at HC4 HTK HOK HLS
    clear ht hq ho HC3 Q3 hdd hH hD HS4 HL2 HHD
    go_wp2_with fail
    (with_reducible refine HC4.out.mono ?_)
    rintro e w5 ⟨v, rfl, hco, ht, ho⟩
    obtain ⟨A, c, hv, hc1, hc2, hls⟩ := hco.ls
    obtain ⟨n, hn⟩ : ∃ n, D.length = n := ⟨_, rfl⟩
    rw [hn] at hv hc1
    subst hv
    have Q5 := Lib.hid (Q4.out.one ht ho)
    have HRW4 := Lib.hid (show w.heap.size < w4.heap.size from (Array.getElem?_eq_some_iff.1 Q4.out.r).1)
    have HLC := Lib.hid (hco.offN (off_set w5 p 32 (.slice A n c)) (fun j hj => .inl (by rw [hj]; exact (Array.getElem?_eq_some_iff.1 Q4.out.q).1)))
    have HN := Lib.hid hn
    have y0 := Q5.out.q.c32 HLH.out
    have y1 : w5.frozen? ⟨p, 32, none⟩ = false := Lib.frozen_of_heap (show w5.heap[p]? = _ from Q5.out.q) 32
    have Q6 := Lib.hid (Q5.out.store (u := .slice A n c) HLH.out)
    have HL6 := Lib.hid (show Ls Sc.enc 3 (w5.setCell ⟨p, 32, none⟩ (.slice A n c)) (w5.setCell ⟨p, 32, none⟩ (.slice A n c)).heap.size A D from by
      obtain ⟨A', c', e', _, _, h'⟩ := HLC.out.ls
      rw [hn] at e'
      cases e'
      exact h')
    have HCC := Lib.hid (And.intro hc1 hc2)
    have y2 := Q6.out.t.c1
    have y3 := Q6.out.t.c0
    dsimp only at y2 y3
    clear hco ht ho hls HC4 Q4 Q5 hn hc1 hc2
    cases sw with
    | true =>
      have HT := Lib.hid (show tkn l = none by rw [HTK.out, HOK.out]; rfl)
      go_wp2_with (refine wpList_store_row rfl 106 (.tmp 2) (.tmp 36) rfl w.heap.size Z rfl rfl 106 Z Q6.out.r HIZ.out rfl HOZ.out ?_)
      have hg2 := setRow_heap _ w.heap.size _ Z _ _ Q6.out.r
      try simp only [Exit.inBlock, Exit.then]
      refine bodyPost_ret (v := .tuple #[.agg Z, .bool false]) (results_row2 rfl _ _ w.heap.size 106 Z (0, 0) _ rfl hg2 Tryz.underlying106 rfl HIZ.out _ rfl) rfl ?_
      exact TkP.no (HT.out) (by rw [HZ.out]) (Ino.below_setRow Q6.out.b (Nat.le_refl _) _)
    | false =>
      by_cases hsr : sr = []
      · subst hsr
        have y4 : (w5.setCell ⟨p, 32, none⟩ (.slice A n c)).cell? ⟨p + 1, 0, none⟩ = some (.string ⟨#[]⟩) := y3
        have y5 : (w5.setCell ⟨p, 32, none⟩ (.slice A n c)).cell? ⟨p, 32, none⟩ = some (.slice A n c) := Q6.out.q.c32 HLH.out
        have HRC := Lib.hid (rightChanges_any D A n c (w5.setCell ⟨p, 32, none⟩ (.slice A n c)).heap.size HN.out.symm (by have := HLS.out; have := HN.out; have := HLB.out; omega) (w5.setCell ⟨p, 32, none⟩ (.slice A n c)) (Nat.le_refl _) HL6.out)
        clear y3
        go_wp2_with fail
        generalize w5.setCell ⟨p, 32, none⟩ (.slice A n c) = w6 at *
        (with_reducible refine HRC.out.mono ?_)
        rintro e w7 ⟨rfl, hb7⟩
        have Q7 := Lib.hid (Q6.out.one (Q6.out.t.below hb7) (Off.of_below hb7))
        have HC7 := Lib.hid (HLC.out.go hb7)
        clear hb7 HRC y4 y5 y2
        cases hr : rt (D.map itm) with
        | false =>
          have HT := Lib.hid (show tkn l = none by rw [HTK.out, HOK.out, hr]; rfl)
          clear hr
          go_wp2_with (refine wpList_store_row rfl 106 (.tmp 2) (.tmp 36) rfl w.heap.size Z rfl rfl 106 Z Q7.out.r HIZ.out rfl HOZ.out ?_)
          have hg2 := setRow_heap _ w.heap.size _ Z _ _ Q7.out.r
          try simp only [Exit.inBlock, Exit.then]
          refine bodyPost_ret (v := .tuple #[.agg Z, .bool false]) (results_row2 rfl _ _ w.heap.size 106 Z (0, 0) _ rfl hg2 Tryz.underlying106 rfl HIZ.out _ rfl) rfl ?_
          exact TkP.no (HT.out) (by rw [HZ.out]) (Ino.below_setRow Q7.out.b (Nat.le_refl _) _)
        | true =>
          have HT := Lib.hid (show tkn l = some (H, D) by rw [HTK.out, HOK.out, hr]; rfl)
          have HS := Lib.hid (szP (v := .slice A n c) HLH.out)
          obtain ⟨C, hC⟩ : ∃ C, (u8s H ++ [Value.slice A n c]).toArray = C := ⟨_, rfl⟩
          have HO1 := Lib.hid (onePa (H := H) (A := A) (n := n) (c := c))
          have HQ := Lib.hid (show w7.heap[p]? = some (.cells C 106 (0, 0)) by rw [← hC]; exact Q7.out.q)
          rw [hC] at HS HO1
          have HC := Lib.hid hC
          have HSZ := Lib.hid (show Z.size = C.size by rw [HS.out, ← HZ.out]; rfl)
          clear hr hC
          go_wp2_with (first
            | (refine wpList_load_row rfl 106 (.tmp 6) rfl p rfl 106 C (0, 0) _ HQ.out Tryz.underlying106 rfl (infoPa HS.out) ?_)
            | (refine wpList_store_row rfl 106 (.tmp 2) (.tmp 37) rfl w.heap.size C rfl rfl 106 Z Q7.out.r (infoPa HS.out) HSZ.out HO1.out ?_))
          have hg2 := setRow_heap _ w.heap.size _ C _ _ Q7.out.r
          try simp only [Exit.inBlock, Exit.then]
          refine bodyPost_ret (v := .tuple #[.agg C, .bool true]) (results_row2 rfl _ _ w.heap.size 106 C (0, 0) _ rfl hg2 Tryz.underlying106 rfl (infoPa HS.out) _ rfl) rfl ?_
          obtain ⟨A', c', e', _, _, h'⟩ := (HC7.out.offN (off_row w7 w.heap.size C) (fun j hj => .inl (by rw [hj]; exact HRW4.out))).ls
          rw [HN.out] at e'
          cases e'
          refine ⟨H, .slice A n c, D, true, by rw [HC.out], HLH.out, ⟨A, n, c, rfl, HN.out.symm, HCC.out.1, HCC.out.2, h'⟩, by have := HLS.out; have := HLL.out; omega, Ino.below_setRow Q7.out.b (Nat.le_refl _) _, .inl ⟨rfl, HT.out⟩⟩
      · have HT := Lib.hid (show tkn l = none by rw [HTK.out, HOK.out, show sr.isEmpty = false by cases sr with | nil => exact absurd rfl hsr | cons => rfl]; rfl)
        obtain ⟨x1, x2⟩ := emp_of (s := bs sr) (q := false) (decide_eq_false (show ¬ sr.length = 0 from fun e => hsr (List.eq_nil_of_length_eq_zero e)))
        clear hsr
        go_wp2_with (refine wpList_store_row rfl 106 (.tmp 2) (.tmp 36) rfl w.heap.size Z rfl rfl 106 Z Q6.out.r HIZ.out rfl HOZ.out ?_)
        have hg2 := setRow_heap _ w.heap.size _ Z _ _ Q6.out.r
        try simp only [Exit.inBlock, Exit.then]
        refine bodyPost_ret (v := .tuple #[.agg Z, .bool false]) (results_row2 rfl _ _ w.heap.size 106 Z (0, 0) _ rfl hg2 Tryz.underlying106 rfl HIZ.out _ rfl) rfl ?_
        exact TkP.no (HT.out) (by rw [HZ.out]) (Ino.below_setRow Q6.out.b (Nat.le_refl _) _)
end Go.Proofs.YtjkmfonngbendaaGreatDoor.Se
/- Package stream: what may be sent from; the mark; what is sent. -/
namespace Go.Proofs.YtjkmfonngbendaaGreatDoor.Se
set_option linter.unusedVariables false
set_option linter.unusedSimpArgs false
set_option maxRecDepth 100000
open Go.ChangeShapes Go.WideShapes Go.ChangeAt Go.RowKit
open BigFrame
open Ar Rg
open Pk (be num be_length num_lt u8s u8s_length crc)
open Nd (S bs)
open Di (ItA ckE rgt rgt_iff Check_any L0)
open It (Itm Ch rt rc itm er MkI MkC app dif diff_any check_any errF rt_iff okI UpK key)
open Hk (hashOf)
/-- something may be sent from it -/
noncomputable def okb (L : List Itm) : Bool := L.isEmpty || rgt L
theorem okb_rt {L : List Itm} (h : okb L = true) : rt L = true := by
  unfold okb at h
  rcases (Bool.or_eq_true _ _).mp h with h | h
  · rw [List.isEmpty_iff.1 h]; rfl
  · exact (rgt_iff.1 h).rt
theorem rgt_rt {L : List Itm} (h : rgt L = true) : rt L = true := (rgt_iff.1 h).rt
theorem rt_okI {L : List Itm} (h : rt L = true) : ∀ x ∈ L, okI x = true := (rt_iff.1 h).2
set_option maxHeartbeats 2000000 in
theorem rightBase_any {w : World} {A : Option Addr} {n : Nat} (c : Nat) {L : List Itm} (h : ItA w A n L) :
    Calls Tryz.prog 48 #[.slice A n c] w fun e w' => e = .returned (.bool (okb L)) ∧ Below w.heap.size w w' := by
  have HC := Lib.hid (Check_any c h)
  by_cases hz : n = 0
  · have e1 : okb L = true := by
      have : L = [] := List.eq_nil_of_length_eq_zero (by rw [← h.1]; exact hz)
      rw [this]; rfl
    rw [e1]
    subst hz
    clear h HC e1
    go_enter Tryz.func48, Tryz.ntmps48
    go_wp2
    go_ret
    exact ⟨rfl, Below.refl _ _⟩
  · have e1 : okb L = rgt L := by
      unfold okb
      cases hL : L with
      | nil => exact absurd (by rw [h.1, hL]; rfl) hz
      | cons x r => rfl
    rw [e1]
    have d1 : ((n : Int) == 0) = false := by rw [beq_eq_false_iff_ne]; omega
    cases hr : rgt L with
    | true =>
      have e2 : ckE L = 0 := by unfold ckE; rw [hr]; rfl
      rw [e2] at HC
      clear h e1 e2 hr hz
      go_enter Tryz.func48, Tryz.ntmps48
      go_wp2_with (go_at_call 18; refine HC.out.mono ?_; rintro e w1 ⟨rfl, hb1⟩)
      go_ret
      exact ⟨rfl, hb1⟩
    | false =>
      have e2 : ckE L = 9 := by unfold ckE; rw [hr]; rfl
      rw [e2] at HC
      clear h e1 e2 hr hz
      go_enter Tryz.func48, Tryz.ntmps48
      go_wp2_with (go_at_call 18; refine HC.out.mono ?_; rintro e w1 ⟨rfl, hb1⟩)
      go_ret
      exact ⟨rfl, hb1⟩
theorem mark_it {tK tS : TypeId} {w : World} {A : Option Addr} {n : Nat} (c : Nat) {L : List Itm} (h : ItA w A n L) (hK : Kt tK tS w) (hr : rt L = true) :
    Calls Tryz.prog 50 #[.slice A n c] w fun e w' => e = .returned (.agg (u8s (hashOf (mkL L))).toArray) ∧ Below w.heap.size w w' :=
  mark_any L (rt_okI hr) A n c h.1 (by have := h.2.1; omega) w hK h.2.2
/-- the changes between two right lists are written as they are -/
theorem dif_ok {A B : List Itm} (hA : rt A = true) (hB : rt B = true) : (∀ x ∈ dif A B, okc x) ∧ (∀ x ∈ dif A B, x.k.size ≤ 48 ∧ x.v.size ≤ 160) ∧ rt ((dif A B).map itm) = true := by
  have hc := It.rc_dif hA hB
  have hall : ∀ x ∈ dif A B, It.okC x = true := It.rc_iff.1 hc
  have hd : ∀ x ∈ dif A B, x.k.size ≤ 48 ∧ x.v.size ≤ 160 ∧ (x.h = true ∨ x.v.toList.isEmpty = true) := fun x hx => by
    have := hall x hx
    simp only [It.okC, It.okKey, Bool.and_eq_true, decide_eq_true_iff, Bool.or_eq_true] at this
    exact ⟨this.1.2, this.2.1, this.2.2⟩
  refine ⟨fun x hx => ?_, fun x hx => ⟨(hd x hx).1, (hd x hx).2.1⟩, It.rt_of ?_ ?_⟩
  · obtain ⟨h1, h2, h3⟩ := hd x hx
    refine ⟨by omega, by omega, fun hf => ?_⟩
    rcases h3 with h3 | h3
    · rw [hf] at h3; cases h3
    · have h4 : x.v.toList = [] := List.isEmpty_iff.1 h3
      rw [ByteArray.toList_eq] at h4
      exact ByteArray.ext (Array.toList_inj.1 h4)
  · have hu := It.up_dif A B (rt_iff.1 hA).1 (rt_iff.1 hB).1
    exact List.pairwise_map.2 hu
  · intro y hy
    obtain ⟨x, hx, rfl⟩ := List.mem_map.1 hy
    exact It.okC_itm (hall x hx)
/-- what is sent -/
noncomputable def sndE (F T : List Itm) : Int := if okb F = true ∧ rgt T = true then 0 else 9
noncomputable def sndS (F T : List Itm) : List UInt8 := if okb F = true ∧ rgt T = true then wrS (hashOf (mkL F)) (dif F T) else []
theorem hash32 (L : List Itm) : (hashOf (mkL L)).length = 32 := Hk.hash_length _
/-- it is taken as it was sent -/
theorem tkn_snd {F T : List Itm} (h1 : okb F = true) (h2 : rgt T = true) (hl : F.length + T.length ≤ 4194304) : sndE F T = 0 ∧ sndS F T = wrS (hashOf (mkL F)) (dif F T) ∧ tkn (sndS F T) = some (hashOf (mkL F), dif F T) := by
  obtain ⟨d1, d2, d3⟩ := dif_ok (okb_rt h1) (rgt_rt h2)
  have e : sndS F T = wrS (hashOf (mkL F)) (dif F T) := if_pos ⟨h1, h2⟩
  refine ⟨if_pos ⟨h1, h2⟩, e, ?_⟩
  rw [e]
  exact tkn_wr (hash32 F) d1 (by have := It.dif_len F T; omega) d3
theorem snd_len {F T : List Itm} (hl : F.length + T.length ≤ 4194304) : (sndS F T).length ≤ 1099511627775 := by
  unfold sndS
  split
  · rename_i h
    obtain ⟨d1, d2, d3⟩ := dif_ok (okb_rt h.1) (rgt_rt h.2)
    have h1 := flatC_len d2
    have h2 := It.dif_len F T
    rw [wrS_len]
    unfold wrB
    rw [List.length_append, List.length_append, List.length_append, be_length, hash32]
    simp only [List.length_cons, List.length_nil]
    omega
  · exact Nat.zero_le _
end Go.Proofs.YtjkmfonngbendaaGreatDoor.Se
/- Contracts of package stream's Mark, Send, Base. -/
namespace Go.Proofs.YtjkmfonngbendaaGreatDoor.Se
set_option linter.unusedVariables false
set_option linter.unusedSimpArgs false
set_option maxRecDepth 100000
open Go.ChangeShapes Go.WideShapes Go.ChangeAt Go.RowKit
open BigFrame
open Ar Rg
open Pk (be num be_length num_lt u8s u8s_length crc)
open Nd (S bs)
open Di (ItA ckE rgt rgt_iff Check_any L0)
open It (Itm Ch rt rc itm er MkI MkC app dif diff_any check_any errF rt_iff okI UpK key)
open Hk (hashOf)
open Ino (results_row2)
variable {tK tS : TypeId}
theorem fold_ahead : ∀ (vs zs pre suf : List Value) (k : Nat), zs.length = vs.length → pre.length = k → List.foldl (fun (cs : Array Value) (x : Value × Nat) => cs.setIfInBounds x.snd x.fst) (pre ++ (zs ++ suf)).toArray (vs.zipIdx k) = (pre ++ (vs ++ suf)).toArray
  | [], [], pre, suf, k, _, _ => rfl
  | [], z :: zs, pre, suf, k, h, _ => by cases h
  | v :: vs, [], pre, suf, k, h, _ => by cases h
  | v :: vs, z :: zs, pre, suf, k, h, hp => by
    rw [List.zipIdx_cons, List.foldl_cons]
    have e : (pre ++ (z :: zs ++ suf)).toArray.setIfInBounds k v = ((pre ++ [v]) ++ (zs ++ suf)).toArray := by
      rw [List.setIfInBounds_toArray, List.set_append_right _ _ (by omega), show k - pre.length = 0 by omega, List.cons_append, List.set_cons_zero, List.append_assoc]; rfl
    show List.foldl _ ((pre ++ (z :: zs ++ suf)).toArray.setIfInBounds k v) _ = _
    rw [e, fold_ahead vs zs (pre ++ [v]) suf (k + 1) (by simpa using h) (by rw [List.length_append, List.length_singleton]; omega), List.append_assoc]; rfl
theorem fold_parts0 (H : List UInt8) (hH : H.length = 32) : List.foldl (fun (cs : Array Value) (x : Value × Nat) => cs.setIfInBounds x.snd x.fst) #[Value.int .u8 0, Value.int .u8 0, Value.int .u8 0, Value.int .u8 0, Value.int .u8 0, Value.int .u8 0, Value.int .u8 0, Value.int .u8 0, Value.int .u8 0, Value.int .u8 0, Value.int .u8 0, Value.int .u8 0, Value.int .u8 0, Value.int .u8 0, Value.int .u8 0, Value.int .u8 0, Value.int .u8 0, Value.int .u8 0, Value.int .u8 0, Value.int .u8 0, Value.int .u8 0, Value.int .u8 0, Value.int .u8 0, Value.int .u8 0, Value.int .u8 0, Value.int .u8 0, Value.int .u8 0, Value.int .u8 0, Value.int .u8 0, Value.int .u8 0, Value.int .u8 0, Value.int .u8 0, Value.slice none 0 0] (u8s H).zipIdx = (u8s H ++ [Value.slice none 0 0]).toArray := by
  have h := fold_ahead (u8s H) (u8s z32) [] [Value.slice none 0 0] 0 (by rw [u8s_length, u8s_length, hH]; rfl) rfl
  have e : ([] ++ (u8s z32 ++ [Value.slice none 0 0])).toArray = zPa := zPa_eq.symm
  rw [e] at h
  exact h
/-- a mark and a list, put together -/
theorem fold_parts (H : List UInt8) (hH : H.length = 32) (v : Value) : (List.foldl (fun cs x => cs.setIfInBounds x.snd x.fst) #[Value.int .u8 0, Value.int .u8 0, Value.int .u8 0, Value.int .u8 0, Value.int .u8 0, Value.int .u8 0, Value.int .u8 0, Value.int .u8 0, Value.int .u8 0, Value.int .u8 0, Value.int .u8 0, Value.int .u8 0, Value.int .u8 0, Value.int .u8 0, Value.int .u8 0, Value.int .u8 0, Value.int .u8 0, Value.int .u8 0, Value.int .u8 0, Value.int .u8 0, Value.int .u8 0, Value.int .u8 0, Value.int .u8 0, Value.int .u8 0, Value.int .u8 0, Value.int .u8 0, Value.int .u8 0, Value.int .u8 0, Value.int .u8 0, Value.int .u8 0, Value.int .u8 0, Value.int .u8 0, Value.slice none 0 0] (u8s H).zipIdx).setIfInBounds 32 v = (u8s H ++ [v]).toArray := by
  have h := fold_ahead (u8s H) (u8s z32) [] [Value.slice none 0 0] 0 (by rw [u8s_length, u8s_length, hH]; rfl) rfl
  have e : ([] ++ (u8s z32 ++ [Value.slice none 0 0])).toArray = zPa := zPa_eq.symm
  rw [e] at h
  have h2 : List.foldl (fun (cs : Array Value) (x : Value × Nat) => cs.setIfInBounds x.snd x.fst) #[Value.int .u8 0, Value.int .u8 0, Value.int .u8 0, Value.int .u8 0, Value.int .u8 0, Value.int .u8 0, Value.int .u8 0, Value.int .u8 0, Value.int .u8 0, Value.int .u8 0, Value.int .u8 0, Value.int .u8 0, Value.int .u8 0, Value.int .u8 0, Value.int .u8 0, Value.int .u8 0, Value.int .u8 0, Value.int .u8 0, Value.int .u8 0, Value.int .u8 0, Value.int .u8 0, Value.int .u8 0, Value.int .u8 0, Value.int .u8 0, Value.int .u8 0, Value.int .u8 0, Value.int .u8 0, Value.int .u8 0, Value.int .u8 0, Value.int .u8 0, Value.int .u8 0, Value.int .u8 0, Value.slice none 0 0] (u8s H).zipIdx = (u8s H ++ [Value.slice none 0 0]).toArray := h
  rw [h2, List.setIfInBounds_toArray, List.set_append_right _ _ (by rw [u8s_length, hH]; exact Nat.le_refl _), u8s_length, hH]; rfl
set_option maxHeartbeats 4000000 in
theorem Send_any {w : World} {A A' : Option Addr} {n m : Nat} (c c' : Nat) {F T : List Itm} (hF : ItA w A n F) (hT : ItA w A' m T) (hK : Kt tK tS w) :
    Calls Tryz.prog 21 #[.slice A n c, .slice A' m c'] w fun e w' => e = .returned (.tuple #[.string (bs (sndS F T)), .int .i64 (sndE F T)]) ∧ Below w.heap.size w w' := by
  have HRB := Lib.hid (rightBase_any c hF)
  have HTT := Lib.hid hT
  have HFF := Lib.hid hF
  have HKK := Lib.hid hK
  by_cases h1 : okb F = true
  · rw [h1] at HRB
    cases h2 : rgt T with
    | true =>
      have hr1 := okb_rt h1
      have hr2 := rgt_rt h2
      have e0 : sndE F T = 0 := if_pos ⟨h1, h2⟩
      have e1 : sndS F T = wrS (hashOf (mkL F)) (dif F T) := if_pos ⟨h1, h2⟩
      rw [e0, e1]
      obtain ⟨d1, d2, d3⟩ := dif_ok hr1 hr2
      have hdl := It.dif_len F T
      have HDL := Lib.hid (show (dif F T).length ≤ 2097152 by have := hF.1; have := hF.2.1; have := hT.1; have := hT.2.1; omega)
      have HD1 := Lib.hid d1
      have HD2 := Lib.hid d2
      have e2 : ckE T = 0 := by unfold ckE; rw [h2]; rfl
      have HCK := Lib.hid (fun (w1 : World) (hb : Below w.heap.size w w1) => Check_any c' (hT.go hb))
      rw [e2] at HCK
      have HDF := Lib.hid (fun (w1 : World) (hb : Below w.heap.size w w1) => diff_any F T A A' n c m c' w1.heap.size w1.heap.size hF.1 hT.1 (by have := hF.2.1; omega) (by have := hT.2.1; omega) w1 (Nat.le_refl _) (Nat.le_refl _) (hF.go hb).2.2 (hT.go hb).2.2)
      have e3 : er (rt F && rt T) = 0 := by rw [hr1, hr2]; rfl
      have e4 : (if (rt F && rt T) = true then dif F T else []) = dif F T := if_pos (by rw [hr1, hr2]; rfl)
      rw [e3, e4] at HDF
      have HMK := Lib.hid (fun (w1 : World) (hb : Below w.heap.size w w1) => mark_it c (hF.go hb) (hK.go hb) hr1)
      have HH := Lib.hid (hash32 F)
      obtain ⟨H, hH⟩ : ∃ H, hashOf (mkL F) = H := ⟨_, rfl⟩
      obtain ⟨D, hD⟩ : ∃ D, dif F T = D := ⟨_, rfl⟩
      rw [hH] at HMK HH ⊢
      rw [hD] at HDF HDL HD1 HD2 ⊢
      clear hF hT hK h1 h2 hr1 hr2 e0 e1 d1 d2 d3 hdl e2 e3 e4 hH hD HFF HTT HKK
      go_enter Tryz.func21, Tryz.ntmps21
      go_wp2_with fail
      (with_reducible refine HRB.out.mono ?_)
      rintro e w1 ⟨rfl, hb1⟩
      have B1 := Lib.hid hb1
      clear hb1 HRB
      go_wp2_with fail
      (with_reducible refine (HCK.out _ B1.out).mono ?_)
      rintro e w2 ⟨rfl, hb2⟩
      have B2 := Lib.hid (B1.out.trans (hb2.mono B1.out.size))
      clear hb2 HCK B1
      go_wp2_with fail
      (with_reducible refine (HDF.out _ B2.out).mono ?_)
      rintro e w3 ⟨v, rfl, hm3⟩
      obtain ⟨A3, c3, hv, _, _, hl3⟩ := hm3.ls Sc.enc_len
      obtain ⟨n3, hn3⟩ : ∃ n, D.length = n := ⟨_, rfl⟩
      rw [hn3] at hv
      subst hv
      have B3 := Lib.hid (B2.out.trans (hm3.2.mono B2.out.size))
      have L3 := Lib.hid hl3
      have N3 := Lib.hid hn3
      clear hm3 hl3 hn3 HDF B2
      go_wp2_with fail
      (with_reducible refine (HMK.out _ B3.out).mono ?_)
      rintro e w4 ⟨rfl, hb4⟩
      have B4 := Lib.hid (B3.out.trans (hb4.mono B3.out.size))
      have L4 := Lib.hid ((L3.out.below hb4).more hb4.size)
      clear hb4 HMK B3 L3
      have HWR := Lib.hid (fun cs hcs => written_any H HH.out D HD1.out HD2.out A3 n3 c3 N3.out.symm (by have := HDL.out; have := N3.out; omega) cs hcs w4 L4.out)
      have hul : (u8s H).length = 32 := by rw [u8s_length, HH.out]
      go_wp2_with fail
      · have h10 := Nat.lt_of_le_of_lt (Nat.le_of_eq (congrArg Array.size (fold_parts0 H HH.out)).symm) (by assumption)
        rw [szP HH.out] at h10
        exact absurd h10 (Nat.lt_irrefl _)
      (with_reducible refine (HWR.out _ ?_).mono ?_)
      · exact fold_parts H HH.out _
      rintro e w5 ⟨rfl, hb5⟩
      have B5 := Lib.hid (B4.out.trans (hb5.mono B4.out.size))
      clear hb5 hul HWR B4
      go_wp2
      go_ret2
      exact ⟨rfl, B5.out⟩
    | false =>
      have e0 : sndE F T = 9 := if_neg (fun h => by rw [h2] at h; cases h.2)
      have e1 : sndS F T = [] := if_neg (fun h => by rw [h2] at h; cases h.2)
      rw [e0, e1]
      have e2 : ckE T = 9 := by unfold ckE; rw [h2]; rfl
      have HCK := Lib.hid (fun (w1 : World) (hb : Below w.heap.size w w1) => Check_any c' (hT.go hb))
      rw [e2] at HCK
      clear hF hT hK h1 h2 e0 e1 e2 HFF HTT HKK
      go_enter Tryz.func21, Tryz.ntmps21
      go_wp2_with fail
      (with_reducible refine HRB.out.mono ?_)
      rintro e w1 ⟨rfl, hb1⟩
      have B1 := Lib.hid hb1
      clear hb1 HRB
      go_wp2_with fail
      (with_reducible refine (HCK.out _ B1.out).mono ?_)
      rintro e w2 ⟨rfl, hb2⟩
      have B2 := Lib.hid (B1.out.trans (hb2.mono B1.out.size))
      clear hb2 HCK B1
      go_wp2
      go_ret2
      exact ⟨rfl, B2.out⟩
  · have h1 : okb F = false := by simpa using h1
    have e0 : sndE F T = 9 := if_neg (fun h => by rw [h1] at h; cases h.1)
    have e1 : sndS F T = [] := if_neg (fun h => by rw [h1] at h; cases h.1)
    rw [e0, e1]
    rw [h1] at HRB
    clear hF hT hK h1 e0 e1 HFF HTT HKK
    go_enter Tryz.func21, Tryz.ntmps21
    go_wp2_with fail
    (with_reducible refine HRB.out.mono ?_)
    rintro e w1 ⟨rfl, hb1⟩
    go_wp2
    go_ret2
    exact ⟨rfl, hb1⟩
/-- the mark of items, or why they have none -/
def mrkE (L : List Itm) : Int := if rt L then 0 else 4
def mrkH (L : List Itm) : List UInt8 := if rt L then hashOf (mkL L) else z32
theorem mrk_len (L : List Itm) : (mrkH L).length = 32 := by
  unfold mrkH
  split
  · exact hash32 L
  · rfl
theorem zH_eq : zH = (u8s z32).toArray := rfl
set_option maxHeartbeats 4000000 in
theorem Mark_any {w : World} {A : Option Addr} {n : Nat} (c : Nat) {L : List Itm} (hL : ItA w A n L) (hK : Kt tK tS w) :
    Calls Tryz.prog 27 #[.slice A n c] w fun e w' => e = .returned (.tuple #[.agg (u8s (mrkH L)).toArray, .int .i64 (mrkE L)]) ∧ Below w.heap.size w w' := by
  have hb0 := (Below.refl w.heap.size w).alloc (Nat.le_refl _) (.cells zH 54)
  have HB0 := Lib.hid hb0
  have HR0 := Lib.hid (heap_alloc_new w (.cells zH 54))
  have HC := Lib.hid (fun w1 (hb : Below w.heap.size w w1) => check_any L A n c w1.heap.size hL.1 (by have := hL.2.1; omega) w1 (Nat.le_refl _) (hL.go hb).2.2)
  have HMK := Lib.hid (fun (hr : rt L = true) w1 (hb : Below w.heap.size w w1) => mark_it c (hL.go hb) (hK.go hb) hr)
  obtain ⟨Z, hZ⟩ : ∃ Z : Array Value, zH = Z := ⟨_, rfl⟩
  have HZ := Lib.hid hZ
  have HIZ := Lib.hid (show (Tryz.prog.info? 54).map (·.size) = some Z.size by rw [← hZ]; kernel_rfl)
  have HOZ := Lib.hid (show Z.all (·.oneCell') = true by rw [← hZ, zH_eq]; exact Hk.u8s_one _)
  have HZ32 := Lib.hid (show Z.size = 32 by rw [← hZ]; rfl)
  rw [hZ] at HB0 HR0
  delta zH at hZ
  clear hb0 hL hK
  cases hr : rt L with
  | true =>
    have HE := Lib.hid (show mrkE L = 0 by unfold mrkE; rw [hr]; rfl)
    have HM := Lib.hid (show mrkH L = hashOf (mkL L) by unfold mrkH; rw [hr]; rfl)
    have HMK2 := Lib.hid (HMK.out hr)
    rw [hr] at HC
    unfold errF at HC
    obtain ⟨C, hC⟩ : ∃ C, (u8s (hashOf (mkL L))).toArray = C := ⟨_, rfl⟩
    have HS := Lib.hid (show C.size = 32 by rw [← hC, List.size_toArray, u8s_length, hash32])
    have HO := Lib.hid (show C.all (·.oneCell') = true by rw [← hC]; exact Hk.u8s_one _)
    rw [hC] at HMK2
    have HCC := Lib.hid hC
    clear hr HMK hC
    go_enter Tryz.func27, Tryz.ntmps27
    go_wp2_with fail
    (with_reducible refine (HC.out _ HB0.out).mono ?_)
    rintro e w1 ⟨rfl, hb1⟩
    have B1 := Lib.hid (HB0.out.trans (hb1.mono HB0.out.size))
    have R1 := Lib.hid ((hb1.block w.heap.size (Array.getElem?_eq_some_iff.1 HR0.out).1).trans HR0.out)
    clear hb1 HC HB0 HR0
    go_wp2_with fail
    (with_reducible refine (HMK2.out _ B1.out).mono ?_)
    rintro e w2 ⟨rfl, hb2⟩
    have B2 := Lib.hid (B1.out.trans (hb2.mono B1.out.size))
    have R2 := Lib.hid ((hb2.block w.heap.size (Array.getElem?_eq_some_iff.1 R1.out).1).trans R1.out)
    clear hb2 HMK2 B1 R1
    go_wp2_with (refine wpList_store_row rfl 54 (.tmp 2) (.tmp 12) rfl w.heap.size C rfl rfl 54 Z R2.out (by rw [HS.out]; kernel_rfl) (by rw [HS.out, HZ32.out]) HO.out ?_)
    have hg2 := setRow_heap _ w.heap.size _ C _ _ R2.out
    try simp only [Exit.inBlock, Exit.then]
    refine bodyPost_ret (v := .tuple #[.agg C, .int .i64 0]) (results_row2 rfl _ _ w.heap.size 54 C (0, 0) _ rfl hg2 Tryz.underlying54 rfl (by rw [HS.out]; kernel_rfl) _ rfl) rfl ?_
    exact ⟨by rw [HE.out, HM.out, HCC.out], Ino.below_setRow B2.out (Nat.le_refl _) _⟩
  | false =>
    have HE := Lib.hid (show mrkE L = 4 by unfold mrkE; rw [hr]; rfl)
    have HM := Lib.hid (show mrkH L = z32 by unfold mrkH; rw [hr]; rfl)
    rw [hr] at HC
    unfold errF at HC
    clear hr HMK
    go_enter Tryz.func27, Tryz.ntmps27
    go_wp2_with fail
    (with_reducible refine (HC.out _ HB0.out).mono ?_)
    rintro e w1 ⟨rfl, hb1⟩
    have B1 := Lib.hid (HB0.out.trans (hb1.mono HB0.out.size))
    have R1 := Lib.hid ((hb1.block w.heap.size (Array.getElem?_eq_some_iff.1 HR0.out).1).trans HR0.out)
    clear hb1 HC HB0 HR0
    go_wp2_with (refine wpList_store_row rfl 54 (.tmp 2) (.tmp 9) rfl w.heap.size Z rfl rfl 54 Z R1.out HIZ.out rfl HOZ.out ?_)
    have hg2 := setRow_heap _ w.heap.size _ Z _ _ R1.out
    try simp only [Exit.inBlock, Exit.then]
    refine bodyPost_ret (v := .tuple #[.agg Z, .int .i64 4]) (results_row2 rfl _ _ w.heap.size 54 Z (0, 0) _ rfl hg2 Tryz.underlying54 rfl HIZ.out _ rfl) rfl ?_
    exact ⟨by rw [HE.out, HM.out, ← HZ.out, zH_eq], Ino.below_setRow B1.out (Nat.le_refl _) _⟩
end Go.Proofs.YtjkmfonngbendaaGreatDoor.Se
/- Two arrays of 32 bytes, held against each other. -/
namespace Go.Proofs.YtjkmfonngbendaaGreatDoor.Se
set_option linter.unusedVariables false
open Go.ChangeShapes Go.WideShapes Go.ChangeAt Go.RowKit
open Pk (u8s u8s_length)
theorem plain8 : Tryz.prog.plainKey 5 = true := by kernel_rfl
theorem info8u : ∃ i, Tryz.prog.info? 5 = some i := Option.isSome_iff_exists.mp (by kernel_rfl)
theorem cells8 : Tryz.prog.cellsOf 5 = 1 := by kernel_rfl
theorem u8s_get? {l : List UInt8} {j : Nat} {b : UInt8} (h : l[j]? = some b) : (u8s l).toArray[j]? = some (.int .u8 (b.toNat : Int)) := by simp [u8s, h]
theorem eqItems_any (d : Nat) (l m : List UInt8) (w : World) : ∀ is : List Nat, (∀ i ∈ is, i < l.length ∧ i < m.length) → (Op.eqItems (d + 1) 5 1 (u8s l).toArray (u8s m).toArray is).run Tryz.prog w = .ok (is.all fun i => l[i]? == m[i]?) w
  | [], _ => by simp [Op.eqItems]
  | i :: is, h => by
    obtain ⟨h1, h2⟩ := h i List.mem_cons_self
    have hx := List.getElem?_eq_getElem h1
    have hy := List.getElem?_eq_getElem h2
    generalize l[i] = x at *
    generalize m[i] = y at *
    have hp := run_part_plain (P := Tryz.prog) w plain8 (show (u8s l).toArray[i * 1]? = some (.int .u8 (x.toNat : Int)) by rw [Nat.mul_one]; exact u8s_get? hx)
    have hq := run_part_plain (P := Tryz.prog) w plain8 (show (u8s m).toArray[i * 1]? = some (.int .u8 (y.toNat : Int)) by rw [Nat.mul_one]; exact u8s_get? hy)
    have he := run_equalIn_int (P := Tryz.prog) w d 5 .u8 .u8 (x.toNat : Int) (y.toNat : Int) Tryz.underlying5
    have ih := eqItems_any d l m w is (fun j hj => h j (List.mem_cons_of_mem _ hj))
    have hb : ((x.toNat : Int) == (y.toNat : Int)) = (some x == some y) := by
      rw [Bool.eq_iff_iff, beq_iff_eq, beq_iff_eq, Option.some_inj, ← UInt8.toNat_inj]; omega
    rw [List.all_cons, hx, hy]
    simp only [Op.eqItems, Sem.run_bind, hp, hq, he, Result.andThen_ok]
    by_cases hxy : x = y
    · subst hxy
      simp [ih]
    · have hne : ((x.toNat : Int) == (y.toNat : Int)) = false := by rw [hb]; simpa using hxy
      simp [hne, hxy]
set_option maxRecDepth 100000 in
theorem eq_arr {l m : List UInt8} (hl : l.length = 32) (hm : m.length = 32) (w : World) : (Op.equalIn 10000 54 (.agg (u8s l).toArray) (.agg (u8s m).toArray)).run Tryz.prog w = .ok (decide (l = m)) w := by
  obtain ⟨i, hi⟩ := info8u
  rw [run_equalIn_array (P := Tryz.prog) w 9999 _ _ Tryz.underlying54 hi, cells8]
  rw [eqItems_any 9998 l m w _ (fun j hj => by have : j < 32 := by simpa using hj
                                               omega)]
  refine congrArg (fun b => Result.ok b w) ?_
  rw [Bool.eq_iff_iff, List.all_eq_true, decide_eq_true_iff]
  constructor
  · intro h
    apply List.ext_getElem? 
    intro j
    by_cases hj : j < 32
    · simpa using h j (by simpa using hj)
    · rw [List.getElem?_eq_none (by omega), List.getElem?_eq_none (by omega)]
  · rintro rfl j _; simp
theorem guard32 : Tryz.prog.eqGuardType Tryz.prog.depth 54 = false := by kernel_rfl
end Go.Proofs.YtjkmfonngbendaaGreatDoor.Se
/- Contracts of package stream's Base and Receive. -/
namespace Go.Proofs.YtjkmfonngbendaaGreatDoor.Se
set_option linter.unusedVariables false
set_option linter.unusedSimpArgs false
set_option maxRecDepth 100000
open Go.ChangeShapes Go.WideShapes Go.ChangeAt Go.RowKit
open BigFrame
open Ar Rg
open Pk (be num be_length num_lt u8s u8s_length crc)
open Nd (S bs)
open Di (ItA ckE rgt rgt_iff Check_any L0)
open It (Itm Ch rt rc itm er MkI MkC app dif apply_any rt_iff okI UpK key)
open Hk (hashOf)
open Ino (results_row2)
/-- a load of a whole array or struct, from the middle of a row -/
theorem wpList_load_at {P : Program} {ops : Array Oper} {rest : List Oper} {o : Oper} {a : Act} {w : World} {Q : Exit → Act → World → Prop} (hgd : o.guard = none) (ty : TypeId) (x : Operand) (ho : o.op = .load ty x) (b off : Nat) (hx : a.eval x = .pointer (some ⟨b, off, none⟩)) (cs : List Value) (d : TypeDesc) (hc : w.rangeAt b off cs)
    (hu : P.underlying ty = some d) (hd : d.isRow = true) (hi : (P.info? ty).map (·.size) = some cs.length) (h : wpList P ops Q rest (a.put o.dst (.agg cs.toArray)) w) : wpList P ops Q (o :: rest) a w :=
  wpList_plain hgd fun K hK => by
    unfold Oper.wp
    rw [load_run ty x ho b off hx cs d hc hu hd hi, Oper.upon_value]
    exact hK _ _ h
variable {tK tS : TypeId}
/-- what Base answers -/
def basE (l : List UInt8) : Int := if (tkn l).isSome then 0 else 16
def basH (l : List UInt8) : List UInt8 := match tkn l with | some (H, _) => H | none => z32
set_option maxHeartbeats 8000000 in
theorem Base_any (l : List UInt8) (hl : l.length ≤ 1099511627775) (w : World) :
    Calls Tryz.prog 25 #[.string (bs l)] w fun e w' => e = .returned (.tuple #[.agg (u8s (basH l)).toArray, .int .i64 (basE l)]) ∧ Below w.heap.size w w' := by
  have HTK := Lib.hid (fun w => taken_any l hl w)
  have hb0 := (Below.refl w.heap.size w).alloc (Nat.le_refl _) (.cells zH 54)
  have HB0 := Lib.hid hb0
  have HR0 := Lib.hid (heap_alloc_new w (.cells zH 54))
  obtain ⟨Z, hZ⟩ : ∃ Z : Array Value, zH = Z := ⟨_, rfl⟩
  have HZ := Lib.hid hZ
  have HIZ := Lib.hid (show (Tryz.prog.info? 54).map (·.size) = some Z.size by rw [← hZ]; kernel_rfl)
  have HOZ := Lib.hid (show Z.all (·.oneCell') = true by rw [← hZ, zH_eq]; exact Hk.u8s_one _)
  have HZ32 := Lib.hid (show Z.size = 32 by rw [← hZ]; rfl)
  rw [hZ] at HB0 HR0
  delta zH at hZ
  clear hb0 hl
  go_enter Tryz.func25, Tryz.ntmps25
  go_wp2_with fail
  (with_reducible refine (HTK.out _).mono ?_)
  rintro e w1 ⟨H, v, D, ok, rfl, hH, hls, hdl, hb1, hcase⟩
  obtain ⟨A, n, c, hv, hn, _, _, _⟩ := hls
  subst hv
  have B1 := Lib.hid (HB0.out.trans (hb1.mono HB0.out.size))
  have R1 := Lib.hid ((hb1.block w.heap.size (Array.getElem?_eq_some_iff.1 HR0.out).1).trans HR0.out)
  have HCS := Lib.hid hcase
  obtain ⟨C, hC⟩ : ∃ C, (u8s H ++ [Value.slice A n c]).toArray = C := ⟨_, rfl⟩
  have HS := Lib.hid (show C.size = 33 by rw [← hC]; exact szP hH)
  have HO1 := Lib.hid (show C.all (·.oneCell') = true by rw [← hC]; exact onePa)
  have HCC := Lib.hid hC
  have HHL := Lib.hid hH
  rw [hC]
  clear hb1 HB0 HR0 HTK hcase hn hdl hC hH
  have ha := (Below.refl w1.heap.size w1).alloc (Nat.le_refl _) (.cells zPa 106)
  have HN2 := Lib.hid (heap_alloc_new w1 (.cells zPa 106))
  have R2 := Lib.hid ((ha.block w.heap.size (Array.getElem?_eq_some_iff.1 R1.out).1).trans R1.out)
  have B2 := Lib.hid (B1.out.trans (ha.mono B1.out.size))
  have HZP := Lib.hid (show zPa.size = C.size from (show zPa.size = 33 from rfl).trans HS.out.symm)
  have HBS := Lib.hid (show (u8s H).toArray.size = 32 by rw [List.size_toArray, u8s_length, HHL.out])
  have HIB := Lib.hid (show (Tryz.prog.info? 54).map (·.size) = some (u8s H).toArray.size by rw [HBS.out]; kernel_rfl)
  have HOB := Lib.hid (Hk.u8s_one H)
  obtain ⟨p, hp⟩ : ∃ p, w1.heap.size = p := ⟨_, rfl⟩
  have HPW := Lib.hid (show w.heap.size < p by rw [← hp]; exact (Array.getElem?_eq_some_iff.1 R1.out).1)
  rw [hp] at HN2
  have R3 := Lib.hid (((off_row (w1.alloc (.cells zPa 106)) p C).block w.heap.size (Array.getElem?_eq_some_iff.1 R2.out).1 (by have := HPW.out; omega)).trans R2.out)
  have B3 := Lib.hid (Ino.below_setRow B2.out (Nat.le_of_lt HPW.out) C)
  have HN3 := Lib.hid (setRow_heap (w1.alloc (.cells zPa 106)) p _ C _ _ HN2.out)
  have hrg : ((w1.alloc (.cells zPa 106)).setRow p C).rangeAt p 0 (u8s H) := fun j v hj => (cell_of_row _ _ (0 + j) _ _ _ HN3.out).trans (by rw [← HCC.out, Nat.zero_add, List.getElem?_toArray, List.getElem?_append_left (List.getElem?_eq_some_iff.1 hj).1]; exact hj)
  have HRG := Lib.hid hrg
  clear ha hrg R1 R2 B1 B2
  cases ok with
  | true =>
    have HT := Lib.hid (show tkn l = some (H, D) from by rcases HCS.out with h | h; exact h.2; exact absurd h.1 (by decide))
    have HE := Lib.hid (show basE l = 0 by unfold basE; rw [HT.out]; rfl)
    have HB := Lib.hid (show basH l = H by unfold basH; rw [HT.out])
    clear HCS
    go_wp2_with (first
      | (refine wpList_store_row rfl 106 (.tmp 4) (.tmp 9) rfl p C rfl rfl 106 zPa HN2.out (infoPa HS.out) HZP.out HO1.out ?_)
      | (refine wpList_load_at rfl 54 (.tmp 14) rfl p 0 rfl (u8s H) _ HRG.out Tryz.underlying54 rfl (by rw [HIB.out, List.size_toArray]) ?_)
      | (refine wpList_store_row rfl 54 (.tmp 2) (.tmp 15) rfl w.heap.size (u8s H).toArray rfl rfl 54 Z R3.out HIB.out (by rw [HBS.out, HZ32.out]) HOB.out ?_))
    have hg2 := setRow_heap _ w.heap.size _ (u8s H).toArray _ _ R3.out
    try simp only [Exit.inBlock, Exit.then]
    refine bodyPost_ret (v := .tuple #[.agg (u8s H).toArray, .int .i64 0]) (results_row2 rfl _ _ w.heap.size 54 (u8s H).toArray (0, 0) _ rfl hg2 Tryz.underlying54 rfl HIB.out _ rfl) rfl ?_
    exact ⟨by rw [HE.out, HB.out], Ino.below_setRow B3.out (Nat.le_refl _) _⟩
  | false =>
    have HT := Lib.hid (show tkn l = none from by rcases HCS.out with h | h; exact absurd h.1 (by decide); exact h.2.1)
    have HE := Lib.hid (show basE l = 16 by unfold basE; rw [HT.out]; rfl)
    have HB := Lib.hid (show basH l = z32 by unfold basH; rw [HT.out])
    clear HCS
    go_wp2_with (first
      | (refine wpList_store_row rfl 106 (.tmp 4) (.tmp 9) rfl p C rfl rfl 106 zPa HN2.out (infoPa HS.out) HZP.out HO1.out ?_)
      | (refine wpList_store_row rfl 54 (.tmp 2) (.tmp 13) rfl w.heap.size Z rfl rfl 54 Z R3.out HIZ.out rfl HOZ.out ?_))
    have hg2 := setRow_heap _ w.heap.size _ Z _ _ R3.out
    try simp only [Exit.inBlock, Exit.then]
    refine bodyPost_ret (v := .tuple #[.agg Z, .int .i64 16]) (results_row2 rfl _ _ w.heap.size 54 Z (0, 0) _ rfl hg2 Tryz.underlying54 rfl HIZ.out _ rfl) rfl ?_
    exact ⟨by rw [HE.out, HB.out, ← HZ.out, zH_eq], Ino.below_setRow B3.out (Nat.le_refl _) _⟩
end Go.Proofs.YtjkmfonngbendaaGreatDoor.Se
/- The contract of package stream's Receive. Written by mk_sfd.py. -/
namespace Go.Proofs.YtjkmfonngbendaaGreatDoor.Se
set_option linter.unusedVariables false
set_option linter.unusedSimpArgs false
set_option maxRecDepth 100000
open Go.ChangeShapes Go.WideShapes Go.ChangeAt Go.RowKit
open BigFrame
open Ar Rg
open Pk (be num be_length num_lt u8s u8s_length crc)
open Nd (S bs)
open Di (ItA ckE rgt rgt_iff Check_any L0)
open It (Itm Ch rt rc itm er MkI MkC app dif apply_any rt_iff okI UpK key)
open Hk (hashOf)
open Ino (results_row2)
variable {tK tS : TypeId}
/-- what Receive answers -/
noncomputable def rcvE (L : List Itm) (l : List UInt8) : Int := if okb L then (match tkn l with | none => 16 | some (H, D) => if H = hashOf (mkL L) ∧ rc D = true ∧ rgt (app L D) = true then 0 else 16) else 9
noncomputable def rcvL (L : List Itm) (l : List UInt8) : List Itm := if rcvE L l = 0 then (match tkn l with | none => [] | some (_, D) => app L D) else []
theorem rcvL_no {L : List Itm} {l : List UInt8} (h : rcvE L l ≠ 0) : rcvL L l = [] := if_neg h
/-- what it comes to -/
def RcP (L : List Itm) (l : List UInt8) (w : World) (e : Ending) (w' : World) : Prop := ∃ v, e = .returned (.tuple #[v, .int .i64 (rcvE L l)]) ∧ MkI w w' v (rcvL L l)
theorem RcP.no {L : List Itm} {l : List UInt8} {w w' : World} {e : Ending} {x : Int} (hx : rcvE L l = x) (h0 : x ≠ 0) (he : e = .returned (.tuple #[.slice none 0 0, .int .i64 x])) (hb : Below w.heap.size w w') : RcP L l w e w' :=
  ⟨_, by rw [he, hx], by rw [rcvL_no (by rw [hx]; exact h0)]; exact Mk.nil hb⟩
theorem arr_ne {l m : List UInt8} (hl : l.length = 32) (hm : m.length = 32) (w : World) : (Op.equalIn 10000 54 (.agg (u8s l).toArray) (.agg (u8s m).toArray)).run Tryz.prog w = .ok (decide (l = m)) w := eq_arr hl hm w
set_option maxHeartbeats 16000000 in
theorem Receive_any (l : List UInt8) (hl : l.length ≤ 1099511627775) {w : World} {A : Option Addr} {n : Nat} (c : Nat) (hc : n ≤ c) (hcm : c ≤ maxLen) {L : List Itm} (hL : ItA w A n L) (hK : Kt tK tS w) (hfit : ∀ H D, tkn l = some (H, D) → (app L D).length ≤ 1048576) :
    Calls Tryz.prog 23 #[.slice A n c, .string (bs l)] w (RcP L l w) := by
  have HRB := Lib.hid (rightBase_any c hL)
  have HTK := Lib.hid (fun w => taken_any l hl w)
  by_cases h1 : okb L = true
  · rw [h1] at HRB
    have hr1 := okb_rt h1
    have HMK := Lib.hid (fun w1 (hb : Below w.heap.size w w1) => mark_it c (hL.go hb) (hK.go hb) hr1)
    have HH := Lib.hid (hash32 L)
    have HE := Lib.hid (show rcvE L l = (match tkn l with | none => 16 | some (H, D) => if H = hashOf (mkL L) ∧ rc D = true ∧ rgt (app L D) = true then 0 else 16) by unfold rcvE; rw [if_pos h1])
    have HAP := Lib.hid (fun (D : List Ch) (m : Nat) (A' : Option Addr) (c' : Nat) (hm : m = D.length) (hm9 : m ≤ 1099511627776) (w1 : World) (hb : Below w.heap.size w w1) (h : Ls Sc.enc 3 w1 w1.heap.size A' D) => apply_any L D A A' n c m c' w1.heap.size w1.heap.size hL.1 hc hcm hm (by have := hL.2.1; omega) hm9 w1 (Nat.le_refl _) (Nat.le_refl _) (hL.go hb).2.2 h)
    rw [hr1] at HAP
    have HFIT := Lib.hid hfit
    have HLL := Lib.hid hl
    obtain ⟨Z, hZ⟩ : ∃ Z : Array Value, zPa = Z := ⟨_, rfl⟩
    have HZZ := Lib.hid hZ
    delta zPa at hZ
    clear hL hK hfit h1 hr1 hc hcm hl
    go_enter Tryz.func23, Tryz.ntmps23
    go_wp2_with fail
    (with_reducible refine HRB.out.mono ?_)
    rintro e w1 ⟨rfl, hb1⟩
    have B1 := Lib.hid hb1
    clear hb1 HRB
    go_wp2_with fail
    (with_reducible refine (HTK.out _).mono ?_)
    rintro e w2 ⟨H, v, D, ok, rfl, hH, hls, hdl, hb2, hcase⟩
    obtain ⟨A2, n2, c2, hv, hn2, _, _, hl2⟩ := hls
    subst hv
    have B2 := Lib.hid (B1.out.trans (hb2.mono B1.out.size))
    have HCS := Lib.hid hcase
    obtain ⟨C, hC⟩ : ∃ C, (u8s H ++ [Value.slice A2 n2 c2]).toArray = C := ⟨_, rfl⟩
    have HS := Lib.hid (show C.size = 33 by rw [← hC]; exact szP hH)
    have HO1 := Lib.hid (show C.all (·.oneCell') = true by rw [← hC]; exact onePa)
    have HCC := Lib.hid hC
    have HHL := Lib.hid hH
    have HDL := Lib.hid hdl
    rw [hC]
    have ha := (Below.refl w2.heap.size w2).alloc (Nat.le_refl _) (.cells Z 106)
    have HN2 := Lib.hid (heap_alloc_new w2 (.cells Z 106))
    have HZP := Lib.hid (show Z.size = C.size by rw [HS.out, ← HZZ.out]; rfl)
    obtain ⟨p, hp⟩ : ∃ p, w2.heap.size = p := ⟨_, rfl⟩
    rw [hp] at HN2
    have hbp := Ino.below_setRow ha (show w2.heap.size ≤ p by rw [hp]; exact Nat.le_refl _) C
    have B3 := Lib.hid (B2.out.trans (hbp.mono B2.out.size))
    have HN3 := Lib.hid (setRow_heap (w2.alloc (.cells Z 106)) p _ C _ _ HN2.out)
    have HL3 := Lib.hid ((hl2.below hbp).more hbp.size)
    have HN9 := Lib.hid hn2
    have HMT := Lib.hid (show (match tkn l with | none => (16 : Int) | some (H, D) => if H = hashOf (mkL L) ∧ rc D = true ∧ rgt (app L D) = true then 0 else 16) = rcvE L l from HE.out.symm)
    clear hb2 hcase HTK hn2 hl2 hdl hC hH ha hbp HE B1
    cases ok with
    | false =>
      have HT := Lib.hid (show tkn l = none from by rcases HCS.out with h | h; exact absurd h.1 (by decide); exact h.2.1)
      have HX := Lib.hid (show rcvE L l = 16 by rw [← HMT.out, HT.out])
      clear HCS
      go_wp2_with (refine wpList_store_row rfl 106 (.tmp 6) (.tmp 16) rfl p C rfl rfl 106 Z HN2.out (infoPa HS.out) HZP.out HO1.out ?_)
      generalize (w2.alloc (.cells Z 106)).setRow p C = w3 at *
      refine wp_region_G (fun w' => Below w3.heap.size w3 w') (by kernel_rfl) (by kernel_rfl) (Below.refl _ _).drew ?_
      refine wpG_val (.bool false) rfl (by rfl) (fun w' hSw => by go_simp) ?_
      simp only [List.setIfInBounds_toArray, List.set_cons_zero, List.set_cons_succ]
      refine wpG_val (.bool true) rfl (by rfl) (fun w' hSw => by go_simp) ?_
      simp only [List.setIfInBounds_toArray, List.set_cons_zero, List.set_cons_succ]
      refine wpG_val (.bool true) rfl (by rfl) (fun w' hSw => by go_simp) ?_
      simp only [List.setIfInBounds_toArray, List.set_cons_zero, List.set_cons_succ]
      refine wpG_skip rfl (by rfl) ?_
      simp only [List.setIfInBounds_toArray, List.set_cons_zero, List.set_cons_succ]
      refine wpG_skip rfl (by rfl) ?_
      simp only [List.setIfInBounds_toArray, List.set_cons_zero, List.set_cons_succ]
      refine wpG_skip rfl (by rfl) ?_
      simp only [List.setIfInBounds_toArray, List.set_cons_zero, List.set_cons_succ]
      refine wpG_skip rfl (by rfl) ?_
      simp only [List.setIfInBounds_toArray, List.set_cons_zero, List.set_cons_succ]
      refine wpG_skip rfl (by rfl) ?_
      simp only [List.setIfInBounds_toArray, List.set_cons_zero, List.set_cons_succ]
      refine wpG_val (.bool true) rfl (by rfl) (fun w' hSw => by go_simp) ?_
      simp only [List.setIfInBounds_toArray, List.set_cons_zero, List.set_cons_succ]
      refine wpG_nil ?_
      intro wS hSw
      have B4 := Lib.hid (B3.out.trans (hSw.mono B3.out.size))
      clear hSw
      go_wp2
      go_ret2
      exact RcP.no HX.out (by decide) rfl B4.out
    | true =>
      have HT := Lib.hid (show tkn l = some (H, D) from by rcases HCS.out with h | h; exact h.2; exact absurd h.1 (by decide))
      have HX0 := Lib.hid (show rcvE L l = if H = hashOf (mkL L) ∧ rc D = true ∧ rgt (app L D) = true then 0 else 16 by rw [← HMT.out, HT.out])
      have HF9 := Lib.hid (HFIT.out H D HT.out)
      obtain ⟨M, hM⟩ : ∃ M, hashOf (mkL L) = M := ⟨_, rfl⟩
      rw [hM] at HMK HH HX0
      have HEQ := Lib.hid (fun w => arr_ne HHL.out HH.out w)
      have HRG := Lib.hid (show ∀ w', Below ((w2.alloc (.cells Z 106)).setRow p C).heap.size ((w2.alloc (.cells Z 106)).setRow p C) w' → w'.rangeAt p 0 (u8s H) from fun w' hb j v hj => (cell_of_row _ _ (0 + j) _ _ _ ((hb.block p (Array.getElem?_eq_some_iff.1 HN3.out).1).trans HN3.out)).trans (by rw [← HCC.out, Nat.zero_add, List.getElem?_toArray, List.getElem?_append_left (List.getElem?_eq_some_iff.1 hj).1]; exact hj))
      have HIB := Lib.hid (show (Tryz.prog.info? 54).map (·.size) = some (u8s H).length by rw [u8s_length, HHL.out]; kernel_rfl)
      have y32 : ∀ w', Below ((w2.alloc (.cells Z 106)).setRow p C).heap.size ((w2.alloc (.cells Z 106)).setRow p C) w' → w'.cell? ⟨p, 32, none⟩ = some (.slice A2 n2 c2) := fun w' hb => (cell_of_row _ _ 32 _ _ _ ((hb.block p (Array.getElem?_eq_some_iff.1 HN3.out).1).trans HN3.out)).trans (by rw [← HCC.out, List.getElem?_toArray, List.getElem?_append_right (by rw [u8s_length, HHL.out]; exact Nat.le_refl _), u8s_length, HHL.out]; rfl)
      have HY := Lib.hid y32
      clear HCS HMT y32 hM HFIT
      go_wp2_with (refine wpList_store_row rfl 106 (.tmp 6) (.tmp 16) rfl p C rfl rfl 106 Z HN2.out (infoPa HS.out) HZP.out HO1.out ?_)
      generalize (w2.alloc (.cells Z 106)).setRow p C = w3 at *
      by_cases hHM : H = M
      · rw [decide_eq_true hHM] at HEQ
        have HHM := Lib.hid hHM
        have heq := HEQ.out
        have hgd := guard32
        clear hHM
        refine wp_region_G (fun w' => Below w3.heap.size w3 w') (by kernel_rfl) (by kernel_rfl) (Below.refl _ _).drew ?_
        refine wpG_val (.bool true) rfl (by rfl) (fun w' hSw => by go_simp) ?_
        simp only [List.setIfInBounds_toArray, List.set_cons_zero, List.set_cons_succ]
        refine wpG_val (.bool false) rfl (by rfl) (fun w' hSw => by go_simp) ?_
        simp only [List.setIfInBounds_toArray, List.set_cons_zero, List.set_cons_succ]
        refine wpG_val (.bool false) rfl (by rfl) (fun w' hSw => by go_simp) ?_
        simp only [List.setIfInBounds_toArray, List.set_cons_zero, List.set_cons_succ]
        refine wpG_val (.pointer (some ⟨p, 0, none⟩)) rfl (by rfl) (fun w' hSw => by go_simp) ?_
        simp only [List.setIfInBounds_toArray, List.set_cons_zero, List.set_cons_succ]
        refine wpG_val (.agg (u8s H).toArray) rfl (by rfl) (fun w' hSw => by exact load_run 54 _ rfl p 0 rfl (u8s H) _ (HRG.out w' hSw) Tryz.underlying54 rfl HIB.out) ?_
        simp only [List.setIfInBounds_toArray, List.set_cons_zero, List.set_cons_succ]
        refine wpG_val (.slice A n c) rfl (by rfl) (fun w' hSw => by go_simp) ?_
        simp only [List.setIfInBounds_toArray, List.set_cons_zero, List.set_cons_succ]
        refine wpG_call (.agg (u8s M).toArray) 50 #[.slice A n c] rfl (by rfl) (fun w' => by go_simp) (fun w' hSw => (HMK.out w' (B3.out.trans (hSw.mono B3.out.size))).mono fun e w2 h => ⟨h.1, hSw.trans (h.2.mono hSw.size)⟩) ?_
        simp only [List.setIfInBounds_toArray, List.set_cons_zero, List.set_cons_succ]
        refine wpG_val (.bool false) rfl (by rfl) (fun w' hSw => by go_simp) ?_
        simp only [List.setIfInBounds_toArray, List.set_cons_zero, List.set_cons_succ]
        refine wpG_val (.bool false) rfl (by rfl) (fun w' hSw => by go_simp) ?_
        simp only [List.setIfInBounds_toArray, List.set_cons_zero, List.set_cons_succ]
        refine wpG_nil ?_
        intro wS hSw
        have B4 := Lib.hid (B3.out.trans (hSw.mono B3.out.size))
        have y9 := HY.out wS hSw
        have HLS := Lib.hid ((HL3.out.below hSw).more hSw.size)
        have HAS := Lib.hid (HAP.out D n2 A2 c2 HN9.out (by have := HN9.out; have := HDL.out; have := HLL.out; omega) wS B4.out HLS.out)
        clear hSw heq hgd HAP HMK HY HRG HLS
        cases hrc : rc D with
        | false =>
          have HX := Lib.hid (show rcvE L l = 16 by rw [HX0.out, if_neg (fun h => by rw [hrc] at h; cases h.2.1)])
          rw [hrc] at HAS
          clear hrc
          have hE : er (true && false) = 4 := rfl
          rw [hE] at HAS
          go_wp2_with fail
          (with_reducible refine HAS.out.mono ?_)
          rintro e w5 ⟨v, rfl, hm5⟩
          obtain ⟨A5, c5, hv, _, _, _⟩ := hm5.ls It.enc_len
          subst hv
          have B5 := Lib.hid (B4.out.trans (hm5.2.mono B4.out.size))
          clear hm5 HAS hE
          go_wp2
          go_ret2
          exact RcP.no HX.out (by decide) rfl B5.out
        | true =>
          rw [hrc] at HAS
          have hE : er (true && true) = 0 := rfl
          rw [hE] at HAS
          go_wp2_with fail
          (with_reducible refine HAS.out.mono ?_)
          rintro e w5 ⟨v, rfl, hm5⟩
          have hm6 : MkI wS w5 v (app L D) := hm5
          obtain ⟨A5, c5, hv, hc5, hcm5, hl5⟩ := hm6.ls It.enc_len
          obtain ⟨n5, hn5⟩ : ∃ n, (app L D).length = n := ⟨_, rfl⟩
          rw [hn5] at hv
          subst hv
          have HM5 := Lib.hid (hm6.since B4.out)
          have B5 := Lib.hid (B4.out.trans (hm6.2.mono B4.out.size))
          have HCK := Lib.hid (Check_any c5 (show ItA w5 A5 n5 (app L D) from ⟨hn5.symm, by rw [← hn5]; exact HF9.out, hl5⟩))
          clear hm5 hm6 hc5 hcm5 hl5 hn5 HAS hE y9
          cases hrg : rgt (app L D) with
          | true =>
            have HX := Lib.hid (show rcvE L l = 0 by rw [HX0.out, if_pos ⟨HHM.out, hrc, hrg⟩])
            have HXL := Lib.hid (show rcvL L l = app L D by unfold rcvL; rw [if_pos HX.out, HT.out])
            have e2 : ckE (app L D) = 0 := by unfold ckE; rw [hrg]; rfl
            rw [e2] at HCK
            clear e2 hrg hrc
            go_wp2_with fail
            (with_reducible refine HCK.out.mono ?_)
            rintro e w6 ⟨rfl, hb6⟩
            have HM6 := Lib.hid (HM5.out.go hb6)
            clear hb6 HCK
            go_wp2
            go_ret2
            exact ⟨_, by rw [HX.out]; rfl, by rw [HXL.out]; exact HM6.out⟩
          | false =>
            have HX := Lib.hid (show rcvE L l = 16 by rw [HX0.out, if_neg (fun h => by rw [hrg] at h; cases h.2.2)])
            have e2 : ckE (app L D) = 9 := by unfold ckE; rw [hrg]; rfl
            rw [e2] at HCK
            clear e2 hrg hrc
            go_wp2_with fail
            (with_reducible refine HCK.out.mono ?_)
            rintro e w6 ⟨rfl, hb6⟩
            have B6 := Lib.hid (B5.out.trans (hb6.mono B5.out.size))
            clear hb6 HCK
            go_wp2
            go_ret2
            exact RcP.no HX.out (by decide) rfl B6.out
      · have HX := Lib.hid (show rcvE L l = 16 by rw [HX0.out, if_neg (fun h => hHM h.1)])
        rw [decide_eq_false hHM] at HEQ
        have heq := HEQ.out
        have hgd := guard32
        refine wp_region_G (fun w' => Below w3.heap.size w3 w') (by kernel_rfl) (by kernel_rfl) (Below.refl _ _).drew ?_
        refine wpG_val (.bool true) rfl (by rfl) (fun w' hSw => by go_simp) ?_
        simp only [List.setIfInBounds_toArray, List.set_cons_zero, List.set_cons_succ]
        refine wpG_val (.bool false) rfl (by rfl) (fun w' hSw => by go_simp) ?_
        simp only [List.setIfInBounds_toArray, List.set_cons_zero, List.set_cons_succ]
        refine wpG_val (.bool false) rfl (by rfl) (fun w' hSw => by go_simp) ?_
        simp only [List.setIfInBounds_toArray, List.set_cons_zero, List.set_cons_succ]
        refine wpG_val (.pointer (some ⟨p, 0, none⟩)) rfl (by rfl) (fun w' hSw => by go_simp) ?_
        simp only [List.setIfInBounds_toArray, List.set_cons_zero, List.set_cons_succ]
        refine wpG_val (.agg (u8s H).toArray) rfl (by rfl) (fun w' hSw => by exact load_run 54 _ rfl p 0 rfl (u8s H) _ (HRG.out w' hSw) Tryz.underlying54 rfl HIB.out) ?_
        simp only [List.setIfInBounds_toArray, List.set_cons_zero, List.set_cons_succ]
        refine wpG_val (.slice A n c) rfl (by rfl) (fun w' hSw => by go_simp) ?_
        simp only [List.setIfInBounds_toArray, List.set_cons_zero, List.set_cons_succ]
        refine wpG_call (.agg (u8s M).toArray) 50 #[.slice A n c] rfl (by rfl) (fun w' => by go_simp) (fun w' hSw => (HMK.out w' (B3.out.trans (hSw.mono B3.out.size))).mono fun e w2 h => ⟨h.1, hSw.trans (h.2.mono hSw.size)⟩) ?_
        simp only [List.setIfInBounds_toArray, List.set_cons_zero, List.set_cons_succ]
        refine wpG_val (.bool true) rfl (by rfl) (fun w' hSw => by go_simp) ?_
        simp only [List.setIfInBounds_toArray, List.set_cons_zero, List.set_cons_succ]
        refine wpG_val (.bool true) rfl (by rfl) (fun w' hSw => by go_simp) ?_
        simp only [List.setIfInBounds_toArray, List.set_cons_zero, List.set_cons_succ]
        refine wpG_nil ?_
        intro wS hSw
        have B4 := Lib.hid (B3.out.trans (hSw.mono B3.out.size))
        clear hSw heq hgd
        go_wp2
        go_ret2
        exact RcP.no HX.out (by decide) rfl B4.out
  · have h1 : okb L = false := by simpa using h1
    have HX := Lib.hid (show rcvE L l = 9 by unfold rcvE; rw [h1]; rfl)
    rw [h1] at HRB
    clear hL hK hfit h1 HTK
    go_enter Tryz.func23, Tryz.ntmps23
    go_wp2_with fail
    (with_reducible refine HRB.out.mono ?_)
    rintro e w1 ⟨rfl, hb1⟩
    have B1 := Lib.hid hb1
    clear hb1
    go_wp2
    go_ret2
    exact RcP.no HX.out (by decide) rfl B1.out
end Go.Proofs.YtjkmfonngbendaaGreatDoor.Se
/- Package stream: the laws' own example ('lives'), plain facts. -/
namespace Go.Proofs.YtjkmfonngbendaaGreatDoor.Se
set_option linter.unusedVariables false
set_option linter.unusedSimpArgs false
set_option maxRecDepth 100000
open Go.ChangeShapes Go.WideShapes Go.ChangeAt Go.RowKit
open BigFrame
open Ar Rg
open Pk (be num be_length num_lt u8s u8s_length crc)
open Nd (S bs)
open Di (ItA ckE rgt rgt_iff Check_any L0 rgt_0 rootI)
open It (Itm Ch rt rc itm er MkI MkC app dif apply_any rt_iff okI UpK key)
open Hk (hashOf)
variable {tK tS : TypeId}
theorem dif_L0 : dif [] L0 = [It.there rootI] := by
  unfold L0
  rw [It.dif_right, It.dif_nil []]
theorem okb_nil : okb [] = true := rfl
theorem okb_of {L : List Itm} (h : rgt L = true) : okb L = true := by unfold okb; rw [h, Bool.or_true]
theorem upk {L : List Itm} (h : rt L = true) : UpK key L := (rt_iff.1 h).1
/-- what is sent comes back -/
theorem rcv_snd {F T : List Itm} (h1 : okb F = true) (h2 : rgt T = true) (hl : F.length + T.length ≤ 4194304) : rcvE F (sndS F T) = 0 ∧ rcvL F (sndS F T) = T := by
  obtain ⟨_, _, h⟩ := tkn_snd h1 h2 hl
  have ha := It.app_dif (upk (okb_rt h1)) (upk (rgt_rt h2))
  have hc := It.rc_dif (okb_rt h1) (rgt_rt h2)
  have e : rcvE F (sndS F T) = 0 := by
    unfold rcvE
    rw [if_pos h1, h]
    show (if _ ∧ _ ∧ _ then (0 : Int) else 16) = 0
    rw [if_pos ⟨rfl, hc, by rw [ha]; exact h2⟩]
  refine ⟨e, ?_⟩
  unfold rcvL
  rw [if_pos e, h]
  exact ha
/-- on another it does not -/
theorem rcv_other {F T O : List Itm} (h1 : okb F = true) (h2 : rgt T = true) (hl : F.length + T.length ≤ 4194304) (hO : okb O = true) (hne : hashOf (mkL F) ≠ hashOf (mkL O)) : rcvE O (sndS F T) = 16 := by
  obtain ⟨_, _, h⟩ := tkn_snd h1 h2 hl
  unfold rcvE
  rw [if_pos hO, h]
  show (if _ ∧ _ ∧ _ then (0 : Int) else 16) = 16
  rw [if_neg (fun h => hne h.1)]
theorem bas_snd {F T : List Itm} (h1 : okb F = true) (h2 : rgt T = true) (hl : F.length + T.length ≤ 4194304) : basE (sndS F T) = 0 ∧ basH (sndS F T) = hashOf (mkL F) := by
  obtain ⟨_, _, h⟩ := tkn_snd h1 h2 hl
  unfold basE basH
  rw [h]
  exact ⟨rfl, rfl⟩
/-- the example -/
def sL : List UInt8 := wrS (hashOf []) [It.there rootI]
theorem snd_L0 : sndS [] L0 = sL ∧ sndE [] L0 = 0 := by
  obtain ⟨h1, h2, _⟩ := tkn_snd (F := []) (T := L0) okb_nil rgt_0 (by decide)
  rw [dif_L0] at h2
  exact ⟨h2, h1⟩
theorem hash_ne : hashOf [] ≠ hashOf (mkL L0) := by decide +kernel
theorem sL_len : sL.length = 65 := by decide +kernel
theorem sL_two : sL.take 2 = [67, 83] := by decide +kernel
theorem sL_more : tkn (sL ++ [120]) = none := tkn_sum (by decide +kernel)
end Go.Proofs.YtjkmfonngbendaaGreatDoor.Se
/- Package stream: the laws' own example ('lives') answers true. -/
namespace Go.Proofs.YtjkmfonngbendaaGreatDoor.Se
set_option linter.unusedVariables false
set_option linter.unusedSimpArgs false
set_option maxRecDepth 100000
open Go.ChangeShapes Go.WideShapes Go.ChangeAt Go.RowKit
open BigFrame
open Ar Rg
open Pk (be num be_length num_lt u8s u8s_length crc)
open Nd (S bs)
open Di (ItA ckE rgt rgt_iff Check_any L0 rgt_0 rootI New_any)
open It (Itm Ch rt rc itm er MkI MkC app dif apply_any rt_iff okI UpK key same_any sm sm_iff)
open Hk (hashOf)
variable {tK tS : TypeId}
theorem ItA.no (w : World) : ItA w none 0 [] := ⟨rfl, by decide, fun i x h => by cases h⟩
/-- the calls' contracts, at worlds that keep the tables -/
theorem rcv_call {l : List UInt8} (hl : l.length ≤ 1099511627775) {w : World} {A : Option Addr} {n : Nat} (c : Nat) (hc : n ≤ c) (hcm : c ≤ maxLen) {L : List Itm} (hL : ItA w A n L) (hK : Kt tK tS w) (hfit : ∀ H D, tkn l = some (H, D) → (app L D).length ≤ 1048576) :
    Calls Tryz.prog 23 #[.slice A n c, .string (bs l)] w fun e w' => ∃ A' c', e = .returned (.tuple #[.slice A' (rcvL L l).length c', .int .i64 (rcvE L l)]) ∧ (rcvL L l).length ≤ c' ∧ c' ≤ maxLen ∧ ((rcvL L l).length ≤ 1048576 → ItA w' A' (rcvL L l).length (rcvL L l)) ∧ Below w.heap.size w w' :=
  (Receive_any l hl c hc hcm hL hK hfit).mono fun e w' h => by
    obtain ⟨v, he, hm⟩ := h
    have hb := hm.2
    obtain ⟨A', c', hv, h1, h2, h3⟩ := hm.ls It.enc_len
    subst hv
    exact ⟨A', c', he, h1, h2, fun h => ⟨rfl, h, h3⟩, hb⟩
theorem same_it {w : World} {A A' : Option Addr} {n m c c' : Nat} {L M : List Itm} (hL : ItA w A n L) (hM : ItA w A' m M) :
    Calls Tryz.prog 30 #[.slice A n c, .slice A' m c'] w fun e w' => e = .returned (.bool (sm L M)) ∧ Below w.heap.size w w' :=
  same_any L M A A' n c m c' w.heap.size w.heap.size hL.1 hM.1 (by have := hL.2.1; omega) w (Nat.le_refl _) (Nat.le_refl _) hL.2.2 hM.2.2
theorem c00 : (u8s (hashOf (mkL []))).toArray[0]? = some (.int .u8 227) := by
  have h : (hashOf (mkL []))[0]? = some 0xe3 := Hk.none_facts
  rw [List.getElem?_toArray]
  unfold u8s
  rw [List.getElem?_map, h]
  rfl
/-- a load of a whole array under a guard that is met -/
theorem wpList_load_w {P : Program} {ops : Array Oper} {rest : List Oper} {o : Oper} {a : Act} {w : World} {Q : Exit → Act → World → Prop} (hgd : Region.wanted o (yielded ops a.tmps) = true) (ty : TypeId) (x : Operand) (ho : o.op = .load ty x) (b off : Nat) (hx : a.eval x = .pointer (some ⟨b, off, none⟩)) (C : Array Value) (d : TypeDesc) (hc : w.rangeAt b off C.toList)
    (hu : P.underlying ty = some d) (hd : d.isRow = true) (hi : (P.info? ty).map (·.size) = some C.size) (h : wpList P ops Q rest (a.put o.dst (.agg C)) w) : wpList P ops Q (o :: rest) a w :=
  wpList_step fun K hK => by
    rw [if_pos hgd]
    unfold Oper.wp
    rw [load_run ty x ho b off hx C.toList d hc hu hd (by rw [hi, Array.length_toList]), Oper.upon_value, Array.toArray_toList]
    exact hK _ _ h
theorem var_new (w : World) (C Z : Array Value) (T : TypeId) : Below w.heap.size w ((w.alloc (.cells Z T)).setRow w.heap.size C) ∧ ((w.alloc (.cells Z T)).setRow w.heap.size C).heap[w.heap.size]? = some (.cells C T (0, 0)) :=
  ⟨Ino.below_setRow ((Below.refl w.heap.size w).alloc (Nat.le_refl _) (.cells Z T)) (Nat.le_refl _) C, setRow_heap _ _ _ C _ _ (heap_alloc_new w (.cells Z T))⟩
theorem app_00 : (app L0 [It.there rootI]).length ≤ 1048576 := by decide +kernel
set_option maxHeartbeats 4000000 in
theorem lives_true (w : World) (hK : Kt tK tS w) : Calls Tryz.prog 29 #[] w fun e w' => e = .returned (.bool true) ∧ Below w.heap.size w w' := by
  have HKK := Lib.hid hK
  have B0 := Lib.hid (Below.refl w.heap.size w)
  clear hK
  have HN0 := Lib.hid (fun w => New_any w)
  go_enter Tryz.func29, Tryz.ntmps29
  go_wp2_with fail
  (with_reducible refine (HN0.out _).mono ?_)
  rintro e w1 ⟨A1, rfl, h1, hb1⟩
  have B1 := Lib.hid (B0.out.trans (hb1.mono B0.out.size))
  have HI1 := Lib.hid (show ItA w1 A1 1 L0 from h1)
  have HSN := Lib.hid (Send_any (tK := tK) (tS := tS) 0 1 (ItA.no w1) HI1.out (HKK.out.go B1.out))
  clear hb1 h1 B0
  rw [snd_L0.1, snd_L0.2] at HSN
  go_wp2_with fail
  (with_reducible refine HSN.out.mono ?_)
  rintro e w2 ⟨rfl, hb2⟩
  have B2 := Lib.hid (B1.out.trans (hb2.mono B1.out.size))
  clear hb2 HSN
  have hRC := rcv_call (tK := tK) (tS := tS) (l := sL) (by rw [sL_len]; omega) 0 (Nat.le_refl _) (by decide) (ItA.no w2) (HKK.out.go B2.out) (fun H D h => by
    have h9 := (tkn_snd (F := []) (T := L0) okb_nil rgt_0 (by decide)).2.2
    rw [snd_L0.1, h] at h9
    cases h9
    rw [It.app_dif (upk rfl) (upk (rgt_rt rgt_0))]
    decide)
  have hr := rcv_snd (F := []) (T := L0) okb_nil rgt_0 (by decide)
  rw [snd_L0.1] at hr
  rw [hr.1, hr.2] at hRC
  have HRC := Lib.hid hRC
  clear hRC hr
  go_wp2_with fail
  (with_reducible refine HRC.out.mono ?_)
  rintro e w3 ⟨A3, c3, rfl, hc3, hcm3, h3, hb3⟩
  have B3 := Lib.hid (B2.out.trans (hb3.mono B2.out.size))
  have HI3 := Lib.hid (h3 (by decide))
  clear h3 hb3 HRC
  have hRC := rcv_call (tK := tK) (tS := tS) (l := sL) (by rw [sL_len]; omega) c3 hc3 hcm3 HI3.out (HKK.out.go B3.out) (fun H D h => by
    have h9 := (tkn_snd (F := []) (T := L0) okb_nil rgt_0 (by decide)).2.2
    rw [snd_L0.1, h] at h9
    cases h9
    rw [dif_L0]
    exact app_00)
  have hr := rcv_other (F := []) (T := L0) (O := L0) okb_nil rgt_0 (by decide) (okb_of rgt_0) hash_ne
  rw [snd_L0.1] at hr
  have hr2 : rcvL L0 sL = [] := rcvL_no (by rw [hr]; decide)
  rw [hr, hr2] at hRC
  have HRC := Lib.hid hRC
  clear hRC hr hr2
  go_wp2_with fail
  (with_reducible refine HRC.out.mono ?_)
  rintro e w4 ⟨A4, c4, rfl, hc4, hcm4, _, hb4⟩
  have B4 := Lib.hid (B3.out.trans (hb4.mono B3.out.size))
  have HI4 := Lib.hid (HI3.out.go hb4)
  clear hb4 HRC HI3 hc4 hcm4
  have hcat : bs sL ++ { data := #[120] } = bs (sL ++ [120]) := by decide +kernel
  have hRC := rcv_call (tK := tK) (tS := tS) (l := sL ++ [120]) (by rw [List.length_append, sL_len]; decide) 0 (Nat.le_refl _) (by decide) (ItA.no w4) (HKK.out.go B4.out) (fun H D h => by rw [sL_more] at h; cases h)
  have hr : rcvE [] (sL ++ [120]) = 16 := by unfold rcvE; rw [sL_more]; rfl
  have hr2 : rcvL [] (sL ++ [120]) = [] := rcvL_no (by rw [hr]; decide)
  rw [hr, hr2] at hRC
  have HRC := Lib.hid hRC
  clear hRC hr hr2
  go_wp2_with fail
  (with_reducible refine HRC.out.mono ?_)
  rintro e w5 ⟨A5, c5, rfl, hc5, hcm5, _, hb5⟩
  have B5 := Lib.hid (B4.out.trans (hb5.mono B4.out.size))
  have HI5 := Lib.hid (HI4.out.go hb5)
  clear hb5 HRC HI4 hc5 hcm5 hcat
  have hBA := Base_any sL (by rw [sL_len]; omega) w5
  have hr := bas_snd (F := []) (T := L0) okb_nil rgt_0 (by decide)
  rw [snd_L0.1] at hr
  rw [hr.1, hr.2] at hBA
  obtain ⟨C, hC⟩ : ∃ C, (u8s (hashOf (mkL []))).toArray = C := ⟨_, rfl⟩
  rw [hC] at hBA
  have HC := Lib.hid hC
  have HBA := Lib.hid hBA
  have HIC := Lib.hid (show (Tryz.prog.info? 54).map (·.size) = some C.size by rw [← hC, List.size_toArray, u8s_length, hash32]; kernel_rfl)
  have HOC := Lib.hid (show C.all (·.oneCell') = true by rw [← hC]; exact Hk.u8s_one _)
  have HSC := Lib.hid (show C.size = 32 by rw [← hC, List.size_toArray, u8s_length, hash32])
  clear hr hBA hC
  go_wp2_with fail
  (with_reducible refine HBA.out.mono ?_)
  rintro e w6 ⟨rfl, hb6⟩
  have B6 := Lib.hid (B5.out.trans (hb6.mono B5.out.size))
  have HI6 := Lib.hid (HI5.out.go hb6)
  clear hb6 HBA HI5
  obtain ⟨Z, hZ⟩ : ∃ Z : Array Value, zH = Z := ⟨_, rfl⟩
  have HZC := Lib.hid (show Z.size = C.size by rw [HSC.out, ← hZ]; rfl)
  delta zH at hZ
  have hn6 := var_new w6 C Z 54
  obtain ⟨V6, hV6⟩ : ∃ V, (w6.alloc (.cells Z 54)).setRow w6.heap.size C = V := ⟨_, rfl⟩
  have HN6 := Lib.hid (heap_alloc_new w6 (.cells Z 54))
  rw [hV6] at hn6
  have BV6 := Lib.hid (B6.out.trans (hn6.1.mono B6.out.size))
  have HI7 := Lib.hid (HI6.out.go hn6.1)
  have R6 := Lib.hid hn6.2
  have hMK : Calls Tryz.prog 27 #[.slice none 0 0] V6 fun e w' => e = .returned (.tuple #[.agg (u8s (hashOf (mkL []))).toArray, .int .i64 0]) ∧ Below V6.heap.size V6 w' := Mark_any (tK := tK) (tS := tS) 0 (ItA.no V6) (HKK.out.go BV6.out)
  rw [HC.out] at hMK
  have HMK := Lib.hid hMK
  clear hMK hn6 HI6 B6
  go_wp2_with (refine wpList_store_row rfl 54 (.tmp 9) (.tmp 38) rfl w6.heap.size C rfl rfl 54 Z HN6.out HIC.out HZC.out HOC.out ?_)
  (with_reducible refine HMK.out.mono ?_)
  rintro e w7 ⟨rfl, hb7⟩
  have B7 := Lib.hid (BV6.out.trans (hb7.mono BV6.out.size))
  have R7 := Lib.hid ((hb7.block w6.heap.size (Array.getElem?_eq_some_iff.1 R6.out).1).trans R6.out)
  have HI8 := Lib.hid (HI7.out.go hb7)
  have hn7 := var_new w7 C Z 54
  obtain ⟨V7, hV7⟩ : ∃ V, (w7.alloc (.cells Z 54)).setRow w7.heap.size C = V := ⟨_, rfl⟩
  have HN7 := Lib.hid (heap_alloc_new w7 (.cells Z 54))
  rw [hV7] at hn7
  have BV7 := Lib.hid (B7.out.trans (hn7.1.mono B7.out.size))
  have HI9 := Lib.hid (HI8.out.go hn7.1)
  have R8 := Lib.hid ((hn7.1.block w6.heap.size (Array.getElem?_eq_some_iff.1 R7.out).1).trans R7.out)
  have R9 := Lib.hid hn7.2
  clear hn7 HI7 HI8 R6 R7 hb7 HMK BV6
  have hs1 : (2 : Int) < ((bs sL).size : Int) := by decide +kernel
  have hs2 : ((bs sL).extract 0 2).toList = [67, 83] := by decide +kernel
  go_wp2_with (refine wpList_store_row rfl 54 (.tmp 11) (.tmp 42) rfl w7.heap.size C rfl rfl 54 Z HN7.out HIC.out HZC.out HOC.out ?_)
  (with_reducible refine (HN0.out _).mono ?_)
  rintro e w8 ⟨A8, rfl, h8, hb8⟩
  have B8 := Lib.hid (BV7.out.trans (hb8.mono BV7.out.size))
  have HSM := Lib.hid (same_it (c := c3) (c' := 1) (HI9.out.go hb8) (show ItA w8 A8 1 L0 from h8))
  rw [sm_iff.2 rfl] at HSM
  have S8 := Lib.hid ((hb8.block w6.heap.size (Array.getElem?_eq_some_iff.1 R8.out).1).trans R8.out)
  have S9 := Lib.hid ((hb8.block w7.heap.size (Array.getElem?_eq_some_iff.1 R9.out).1).trans R9.out)
  clear hb8 h8 BV7 HI9 R8 R9
  go_wp2_with fail
  (with_reducible refine HSM.out.mono ?_)
  rintro e w9 ⟨rfl, hb9⟩
  have B9 := Lib.hid (B8.out.trans (hb9.mono B8.out.size))
  have R8 := Lib.hid ((hb9.block w6.heap.size (Array.getElem?_eq_some_iff.1 S8.out).1).trans S8.out)
  have R9 := Lib.hid ((hb9.block w7.heap.size (Array.getElem?_eq_some_iff.1 S9.out).1).trans S9.out)
  clear hb9 HSM B8 S8 S9
  have heq : ∀ w, (Op.equalIn 10000 54 (.agg C) (.agg C)).run Tryz.prog w = .ok true w := fun w => by
    rw [← HC.out]
    have h := arr_ne (hash32 []) (hash32 []) w
    rw [decide_eq_true rfl] at h
    exact h
  have hgd := guard32
  have hc0 : w9.cell? ⟨w7.heap.size, 0, none⟩ = some (.int .u8 227) := cell_of_row _ _ 0 _ _ _ R9.out |>.trans (by rw [← HC.out]; exact c00)
  have HRC := Lib.hid (show w9.rangeAt w6.heap.size 0 C.toList from fun j v hj => (cell_of_row _ _ (0 + j) _ _ _ R8.out).trans (by rw [Nat.zero_add, ← hj, Array.getElem?_toList]))
  have HRD := Lib.hid (show w9.rangeAt w7.heap.size 0 C.toList from fun j v hj => (cell_of_row _ _ (0 + j) _ _ _ R9.out).trans (by rw [Nat.zero_add, ← hj, Array.getElem?_toList]))
  go_wp2_with (first
    | (refine wpList_load_w (by rfl) 54 (.tmp 9) rfl w6.heap.size 0 rfl C _ HRC.out Tryz.underlying54 rfl HIC.out ?_)
    | (refine wpList_load_w (by rfl) 54 (.tmp 11) rfl w7.heap.size 0 rfl C _ HRD.out Tryz.underlying54 rfl HIC.out ?_))
  go_ret
  exact ⟨rfl, B9.out⟩
end Go.Proofs.YtjkmfonngbendaaGreatDoor.Se
/- Package stream: the walk of StreamBack. -/
namespace Go.Proofs.YtjkmfonngbendaaGreatDoor.Se
set_option linter.unusedVariables false
set_option linter.unusedSimpArgs false
set_option maxRecDepth 100000
open Go.ChangeShapes Go.WideShapes Go.ChangeAt Go.RowKit
open BigFrame
open Ar Rg
open Pk (be num be_length num_lt u8s u8s_length crc)
open Nd (S bs)
open Di (ItA ckE rgt rgt_iff Check_any L0 rgt_0 rootI New_any)
open It (Itm Ch rt rc itm er MkI MkC app dif apply_any rt_iff okI UpK key same_any sm sm_iff)
open Hk (hashOf)
variable {tK tS : TypeId}
theorem snd_no {F T : List Itm} (h : ¬ (okb F = true ∧ rgt T = true)) : sndE F T = 9 ∧ sndS F T = [] := ⟨if_neg h, if_neg h⟩
theorem fit_snd {F T : List Itm} (h1 : okb F = true) (h2 : rgt T = true) (hl : F.length + T.length ≤ 4194304) (ht : T.length ≤ 1048576) : ∀ H D, tkn (sndS F T) = some (H, D) → (app F D).length ≤ 1048576 := fun H D h => by
  have h9 := (tkn_snd h1 h2 hl).2.2
  rw [h] at h9
  cases h9
  rw [It.app_dif (upk (okb_rt h1)) (upk (rgt_rt h2))]
  exact ht
theorem row_range {w : World} {b : Nat} {C : Array Value} {t : TypeId} (h : w.heap[b]? = some (.cells C t (0, 0))) : w.rangeAt b 0 C.toList :=
  fun j v hj => (cell_of_row _ _ (0 + j) _ _ _ h).trans (by rw [Nat.zero_add, ← hj, Array.getElem?_toList])
set_option maxHeartbeats 4000000 in
theorem streamBack_walk {w : World} {A A' : Option Addr} {n m : Nat} (c c' : Nat) {F T : List Itm} (hF : ItA w A n F) (hT : ItA w A' m T) (hc : n ≤ c) (hcm : c ≤ maxLen) (hK : Kt tK tS w) :
    Calls Tryz.prog 5 #[.slice A n c, .slice A' m c'] w fun e w' => e = .returned (.bool true) ∧ Below w.heap.size w w' := by
  have HFF := Lib.hid hF
  have HTT := Lib.hid hT
  have HKK := Lib.hid hK
  have HC1 := Lib.hid hc
  have HC2 := Lib.hid hcm
  have HLV := Lib.hid (lives_true w hK)
  have HLN := Lib.hid (show F.length + T.length ≤ 4194304 by have := hF.1; have := hF.2.1; have := hT.1; have := hT.2.1; omega)
  have HLT := Lib.hid (show T.length ≤ 1048576 by have := hT.1; have := hT.2.1; omega)
  clear hF hT hK hc hcm
  go_enter Tryz.func5, Tryz.ntmps5
  go_wp2_with fail
  (with_reducible refine HLV.out.mono ?_)
  rintro e w1 ⟨rfl, hb1⟩
  have B1 := Lib.hid hb1
  have HSN := Lib.hid (Send_any (tK := tK) (tS := tS) c c' (HFF.out.go B1.out) (HTT.out.go B1.out) (HKK.out.go B1.out))
  clear hb1 HLV
  by_cases hr : okb F = true ∧ rgt T = true
  · have HR := Lib.hid hr
    rw [(tkn_snd hr.1 hr.2 HLN.out).1] at HSN
    have HSL := Lib.hid (snd_len HLN.out)
    have HRV := Lib.hid (rcv_snd hr.1 hr.2 HLN.out)
    have HBS := Lib.hid (bas_snd hr.1 hr.2 HLN.out)
    have HFT := Lib.hid (fit_snd hr.1 hr.2 HLN.out HLT.out)
    have HMR := Lib.hid (show mrkE F = 0 ∧ mrkH F = hashOf (mkL F) from ⟨if_pos (okb_rt hr.1), if_pos (okb_rt hr.1)⟩)
    obtain ⟨s, hs⟩ : ∃ s, sndS F T = s := ⟨_, rfl⟩
    rw [hs] at HSN HSL HRV HBS HFT
    clear hs hr
    go_wp2_with fail
    (with_reducible refine HSN.out.mono ?_)
    rintro e w2 ⟨rfl, hb2⟩
    have B2 := Lib.hid (B1.out.trans (hb2.mono B1.out.size))
    have hRC := rcv_call (tK := tK) (tS := tS) (l := s) HSL.out c HC1.out HC2.out (HFF.out.go B2.out) (HKK.out.go B2.out) HFT.out
    rw [HRV.out.1, HRV.out.2] at hRC
    have HRC := Lib.hid hRC
    clear hRC hb2 HSN
    go_wp2_with fail
    (with_reducible refine HRC.out.mono ?_)
    rintro e w3 ⟨A3, c3, rfl, hc3, hcm3, h3, hb3⟩
    have B3 := Lib.hid (B2.out.trans (hb3.mono B2.out.size))
    have HI3 := Lib.hid (h3 HLT.out)
    have hBA := Base_any s HSL.out w3
    rw [HBS.out.1, HBS.out.2] at hBA
    obtain ⟨C, hC⟩ : ∃ C, (u8s (hashOf (mkL F))).toArray = C := ⟨_, rfl⟩
    rw [hC] at hBA
    have HC := Lib.hid hC
    have HBA := Lib.hid hBA
    have HIC := Lib.hid (show (Tryz.prog.info? 54).map (·.size) = some C.size by rw [← hC, List.size_toArray, u8s_length, hash32]; kernel_rfl)
    have HOC := Lib.hid (show C.all (·.oneCell') = true by rw [← hC]; exact Hk.u8s_one _)
    have HSC := Lib.hid (show C.size = 32 by rw [← hC, List.size_toArray, u8s_length, hash32])
    clear hBA hC h3 hb3 HRC hc3 hcm3
    go_wp2_with fail
    (with_reducible refine HBA.out.mono ?_)
    rintro e w4 ⟨rfl, hb4⟩
    have B4 := Lib.hid (B3.out.trans (hb4.mono B3.out.size))
    have HI4 := Lib.hid (HI3.out.go hb4)
    obtain ⟨Z, hZ⟩ : ∃ Z : Array Value, zH = Z := ⟨_, rfl⟩
    have HZC := Lib.hid (show Z.size = C.size by rw [HSC.out, ← hZ]; rfl)
    delta zH at hZ
    have hn4 := var_new w4 C Z 54
    obtain ⟨V4, hV4⟩ : ∃ V, (w4.alloc (.cells Z 54)).setRow w4.heap.size C = V := ⟨_, rfl⟩
    have HN4 := Lib.hid (heap_alloc_new w4 (.cells Z 54))
    rw [hV4] at hn4
    have BV4 := Lib.hid (B4.out.trans (hn4.1.mono B4.out.size))
    have HJ4 := Lib.hid (HI4.out.go hn4.1)
    have R4 := Lib.hid hn4.2
    have HMK := Lib.hid (Mark_any (tK := tK) (tS := tS) c (HFF.out.go BV4.out) (HKK.out.go BV4.out))
    rw [HMR.out.1, HMR.out.2, HC.out] at HMK
    clear hb4 HBA HI3 HI4 hn4
    go_wp2_with (refine wpList_store_row rfl 54 (.tmp 9) (.tmp 34) rfl w4.heap.size C rfl rfl 54 Z HN4.out HIC.out HZC.out HOC.out ?_)
    (with_reducible refine HMK.out.mono ?_)
    rintro e w5 ⟨rfl, hb5⟩
    have B5 := Lib.hid (BV4.out.trans (hb5.mono BV4.out.size))
    have HI5 := Lib.hid (HJ4.out.go hb5)
    have R5 := Lib.hid ((hb5.block w4.heap.size (Array.getElem?_eq_some_iff.1 R4.out).1).trans R4.out)
    have hn5 := var_new w5 C Z 54
    obtain ⟨V5, hV5⟩ : ∃ V, (w5.alloc (.cells Z 54)).setRow w5.heap.size C = V := ⟨_, rfl⟩
    have HN5 := Lib.hid (heap_alloc_new w5 (.cells Z 54))
    rw [hV5] at hn5
    have BV5 := Lib.hid (B5.out.trans (hn5.1.mono B5.out.size))
    have HSM := Lib.hid (same_it (c := c3) (c' := c') (HI5.out.go hn5.1) (HTT.out.go BV5.out))
    rw [sm_iff.2 rfl] at HSM
    have S4 := Lib.hid ((hn5.1.block w4.heap.size (Array.getElem?_eq_some_iff.1 R5.out).1).trans R5.out)
    have S5 := Lib.hid hn5.2
    clear hb5 HMK HJ4 hn5 HI5 R4 R5
    go_wp2_with (refine wpList_store_row rfl 54 (.tmp 11) (.tmp 39) rfl w5.heap.size C rfl rfl 54 Z HN5.out HIC.out HZC.out HOC.out ?_)
    (with_reducible refine HSM.out.mono ?_)
    rintro e w6 ⟨rfl, hb6⟩
    have B6 := Lib.hid (BV5.out.trans (hb6.mono BV5.out.size))
    have R4 := Lib.hid ((hb6.block w4.heap.size (Array.getElem?_eq_some_iff.1 S4.out).1).trans S4.out)
    have R5 := Lib.hid ((hb6.block w5.heap.size (Array.getElem?_eq_some_iff.1 S5.out).1).trans S5.out)
    clear hb6 HSM S4 S5
    have heq : ∀ w, (Op.equalIn 10000 54 (.agg C) (.agg C)).run Tryz.prog w = .ok true w := fun w => by
      rw [← HC.out]
      have h := arr_ne (hash32 F) (hash32 F) w
      rw [decide_eq_true rfl] at h
      exact h
    have hgd := guard32
    have HRC := Lib.hid (row_range R4.out)
    have HRD := Lib.hid (row_range R5.out)
    go_wp2_with (first
      | (refine wpList_load_w (by rfl) 54 (.tmp 9) rfl w4.heap.size 0 rfl C _ HRC.out Tryz.underlying54 rfl HIC.out ?_)
      | (refine wpList_load_w (by rfl) 54 (.tmp 11) rfl w5.heap.size 0 rfl C _ HRD.out Tryz.underlying54 rfl HIC.out ?_))
    go_ret
    exact ⟨rfl, B6.out⟩
  · have HE := Lib.hid (snd_no hr)
    rw [HE.out.1, HE.out.2] at HSN
    clear hr
    go_wp2_with fail
    (with_reducible refine HSN.out.mono ?_)
    rintro e w2 ⟨rfl, hb2⟩
    have B2 := Lib.hid (B1.out.trans (hb2.mono B1.out.size))
    have hem : (bs []).toList.isEmpty = true := by decide +kernel
    clear hb2
    go_wp2
    go_ret
    exact ⟨rfl, B2.out⟩
end Go.Proofs.YtjkmfonngbendaaGreatDoor.Se
/- Items and changes as arguments: how they are read; what the bound says of how many there are. -/
namespace Go.Proofs.YtjkmfonngbendaaGreatDoor.Fr
set_option linter.unusedVariables false
set_option maxRecDepth 100000
open Go.Joins Go.ChangeShapes Go.WideShapes Go.RowKit Go.Deep
open Ar
theorem bulk_one {H : Type} (d : DataW H) : 1 ≤ Rows.uptoBulk d := by
  cases d with
  | lit l => cases l <;> simp [Rows.uptoBulk]
  | _ => simp [Rows.uptoBulk]
theorem bulk_len {H : Type} : ∀ l : List (DataW H), l.length ≤ Rows.uptoBulkAll l
  | [] => Nat.zero_le _
  | d :: r => by
    have h1 := bulk_one d
    have h2 := bulk_len r
    simp only [Rows.uptoBulkAll, List.length_cons]
    omega
theorem bulk_in {H : Type} {d : DataW H} : ∀ {l : List (DataW H)}, d ∈ l → Rows.uptoBulk d ≤ Rows.uptoBulkAll l
  | x :: r, h => by
    simp only [Rows.uptoBulkAll]
    rcases List.mem_cons.1 h with rfl | h
    · omega
    · have := bulk_in h; omega
theorem bulk_slice {H : Type} {l : List (DataW H)} (hk : Rows.uptoSmall H l = true) {d : DataW H} (hd : d ∈ l) {E F : List (DataW H)} (he : d = .slice E F) : E.length ≤ 1048576 := by
  have h1 : Rows.uptoBulkAll l ≤ 1048576 := of_decide_eq_true hk
  have h2 := bulk_in hd
  subst he
  have h3 := bulk_len E
  simp only [Rows.uptoBulk] at h2
  omega
theorem bulk_string {H : Type} {l : List (DataW H)} (hk : Rows.uptoSmall H l = true) {s : List UInt8} (hd : DataW.lit (.string s) ∈ l) : s.length ≤ 1048576 := by
  have h1 : Rows.uptoBulkAll l ≤ 1048576 := of_decide_eq_true hk
  have h2 := bulk_in hd
  simp only [Rows.uptoBulk] at h2
  omega
section
variable {H : Type} {enc : TypeId × Value → H} {w : World} {base : Nat} {spare : Nat → Bool} {held : Bool}
theorem c9 : Tryz.prog.cellsOf 9 = 1 := by kernel_rfl
theorem c4 : Tryz.prog.cellsOf 4 = 1 := by kernel_rfl
theorem readI {n : Nat} {cs : List Value} {y : DataW H × List MemPlace} (hl : cs.length = 2) (h : DataW.trod enc Tryz.prog w base spare held n 82 cs = some y) : ∃ x : It.Itm, cs = It.enc x := by
  obtain ⟨xs, m, _, _, _, hxl, hf⟩ := DataW.trod_struct Tryz.underlying82 h
  have g0 : DataW.trod enc Tryz.prog w base spare held m 9 ((cs.drop 0).take (Tryz.prog.cellsOf 9)) = xs[0]? := hf 0 _ rfl
  have g1 : DataW.trod enc Tryz.prog w base spare held m 9 ((cs.drop 1).take (Tryz.prog.cellsOf 9)) = xs[1]? := hf 1 _ rfl
  rw [c9] at g0 g1
  match cs, hl with
  | [v0, v1], _ =>
    match xs, hxl with
    | [x0, x1], _ =>
      obtain ⟨s0, e0, _⟩ := DataW.trod_string Tryz.underlying9 (g0.trans rfl : _ = some x0)
      obtain ⟨s1, e1, _⟩ := DataW.trod_string Tryz.underlying9 (g1.trans rfl : _ = some x1)
      simp at e0 e1
      exact ⟨⟨s0, s1⟩, by rw [e0, e1]; rfl⟩
theorem readC {n : Nat} {cs : List Value} {y : DataW H × List MemPlace} (hl : cs.length = 3) (h : DataW.trod enc Tryz.prog w base spare held n 41 cs = some y) : ∃ x : Sc.Ch, cs = Sc.enc x := by
  obtain ⟨xs, m, _, _, _, hxl, hf⟩ := DataW.trod_struct Tryz.underlying41 h
  have g0 : DataW.trod enc Tryz.prog w base spare held m 9 ((cs.drop 0).take (Tryz.prog.cellsOf 9)) = xs[0]? := hf 0 _ rfl
  have g1 : DataW.trod enc Tryz.prog w base spare held m 4 ((cs.drop 1).take (Tryz.prog.cellsOf 4)) = xs[1]? := hf 1 _ rfl
  have g2 : DataW.trod enc Tryz.prog w base spare held m 9 ((cs.drop 2).take (Tryz.prog.cellsOf 9)) = xs[2]? := hf 2 _ rfl
  rw [c9] at g0 g2
  rw [c4] at g1
  match cs, hl with
  | [v0, v1, v2], _ =>
    match xs, hxl with
    | [x0, x1, x2], _ =>
      obtain ⟨s0, e0, _⟩ := DataW.trod_string Tryz.underlying9 (g0.trans rfl : _ = some x0)
      obtain ⟨s1, e1, _⟩ := DataW.trod_bool Tryz.underlying4 (g1.trans rfl : _ = some x1)
      obtain ⟨s2, e2, _⟩ := DataW.trod_string Tryz.underlying9 (g2.trans rfl : _ = some x2)
      simp at e0 e1 e2
      exact ⟨⟨s0, s1, s2⟩, by rw [e0, e1, e2]; rfl⟩
theorem cI : Tryz.prog.cellsOf 82 = 2 := by kernel_rfl
theorem cC : Tryz.prog.cellsOf 41 = 3 := by kernel_rfl
/-- an argument that is a list of items -/
theorem argI {v : Value} {d : DataW H} {p : List MemPlace} (h : DataW.Trod enc Tryz.prog w base spare held 42 v d p) (hv : v.cells = #[v]) :
    ∃ A n c D, v = .slice A n c ∧ n = List.length D ∧ n ≤ c ∧ c ≤ maxLen ∧ Ls It.enc 2 w w.heap.size A D ∧ (n = 0 ∨ ∃ E F, d = .slice E F ∧ E.length = n) := by
  obtain ⟨fuel, hf⟩ := h
  rcases open_ls It.enc 2 Tryz.underlying42 cI (by decide) (fun n cs y hl h => readI hl h) hv hf with ⟨h1, h2⟩ | ⟨A, n, c, m, D, h1, h2, h3, h4, h5, E, F, h6, h7, _⟩
  · exact ⟨none, 0, 0, [], h1, rfl, Nat.le_refl _, Nat.zero_le _, Ls.nil, .inl rfl⟩
  · exact ⟨A, n, c, D, h1, h2, h3, h4, h5, .inr ⟨E, F, h6, h7⟩⟩
theorem argC {v : Value} {d : DataW H} {p : List MemPlace} (h : DataW.Trod enc Tryz.prog w base spare held 24 v d p) (hv : v.cells = #[v]) :
    ∃ A n c D, v = .slice A n c ∧ n = List.length D ∧ n ≤ c ∧ c ≤ maxLen ∧ Ls Sc.enc 3 w w.heap.size A D ∧ (n = 0 ∨ ∃ E F, d = .slice E F ∧ E.length = n) := by
  obtain ⟨fuel, hf⟩ := h
  rcases open_ls Sc.enc 3 Tryz.underlying24 cC (by decide) (fun n cs y hl h => readC hl h) hv hf with ⟨h1, h2⟩ | ⟨A, n, c, m, D, h1, h2, h3, h4, h5, E, F, h6, h7, _⟩
  · exact ⟨none, 0, 0, [], h1, rfl, Nat.le_refl _, Nat.zero_le _, Ls.nil, .inl rfl⟩
  · exact ⟨A, n, c, D, h1, h2, h3, h4, h5, .inr ⟨E, F, h6, h7⟩⟩
/-- an argument that is a change -/
theorem argOne {r : Reach} {b0 : Nat} {v : Value} {d : DataW H} {p : List MemPlace} (hv : Value.okWide Tryz.prog w r b0 41 v) (h : DataW.Trod enc Tryz.prog w base spare held 41 v d p) :
    ∃ x : Sc.Ch, v = .agg #[.string x.k, .bool x.h, .string x.v] := by
  obtain ⟨cs, rfl, hsz⟩ := okWide_struct Tryz.underlying41 hv
  obtain ⟨l⟩ := cs
  obtain ⟨fuel, hf⟩ := h
  have hl : l.length = 3 := hsz.trans cC
  obtain ⟨x, hx⟩ := readC (n := fuel) hl (by simpa [Value.cells] using hf)
  exact ⟨x, by rw [hx]; rfl⟩
end
end Go.Proofs.YtjkmfonngbendaaGreatDoor.Fr
/- A tied card of the bounded form: its condition, with what the listed variables read as. No function of the program here. -/
namespace Go.Proofs.YtjkmfonngbendaaGreatDoor.Fr
set_option linter.unusedVariables false
open Go.Joins Go.ChangeShapes
section
variable {H : Type} {enc : TypeId × Value → H}
theorem cond_and {a : Assume} {C : Checked} {os : Os} {f : FuncId} {fn : Func} {s : OpenSpec} {k : (H : Type) → List (DataW H) → Bool} (hk : s.cond = some k) {F : Stop.Interp} {conds : List PathCond} {apart fresh handsOn again : Bool} {X : World → Array Value → Prop}
    (hX : ∀ (w w' : World) (args : Array Value), w.heap = w'.heap → X w args → X w' args)
    (own : ownKnob C.prog.godebug = none) (started : os.Started) (noInit : C.prog.inits.idxOf? f = none) (hfn : C.prog.funcs[f]? = some fn)
    (witness : ∃ (w : World) (tape : Tape) (i : Input), w.os = os ∧ (w.forCall tape i).Shaped C.prog ∧ i.vars = [] ∧ Input.okWide C.prog (w.forCall tape i) .any w.heap.size f i ∧
      ((s.pre enc C.prog fn conds apart (w.forCall tape i).memory i.args ∧ X (w.forCall tape i).memory i.args) ∧ sizedMet enc C.prog fn s apart (w.forCall tape i).memory i.args) ∧ a.holds C.prog (lone (Frame.enter C.prog f i.args .normal) [] (w.forCall tape i)))
    (contract : ∀ (W : World) (base : Nat) (args : Array Value) (ds gs : List (DataW H)) (before : List MemPlace),
      (∀ (j : Nat) t v, fn.params[j]? = some t → args[j]? = some v → Value.okWide C.prog W .any base t v) →
      DataW.Whole enc C.prog fn.params.toList s.vars apart W args.toList ds gs before →
      conds.all (PathCond.test C.prog ⟨fn.params.toList, ds, s.bare.plain.varTypes C.prog, gs⟩) = true → k H (ds ++ gs) = true → X W args →
      a.holds C.prog (lone (Frame.enter C.prog f args .normal) [] W) →
      Calls C.prog f args W fun e W' => ∃ v, e = .returned v ∧ (s.at F).post enc C.prog fn apart fresh handsOn again W args v W') :
    ReturnsInHanded a C os f .any (fun w args => (s.pre enc C.prog fn conds apart w args ∧ X w args) ∧ sizedMet enc C.prog fn s apart w args) ((s.at F).post enc C.prog fn apart fresh handsOn again) := by
  refine returnsInHanded_of_calls own started noInit witness ?_
  intro w tape i _ _ _ hok hpre hholds
  obtain ⟨_, _, _, fn', hfn', _, _, _, _, hval⟩ := hok
  have e : fn' = fn := Option.some.inj (hfn'.symm.trans hfn)
  subst e
  obtain ⟨⟨hp, hx⟩, hz⟩ := hpre
  obtain ⟨ds, gs, before, hw, hc, hkk⟩ := (OpenSpec.pre_some hk conds apart _ _).1 hp
  have hw' := DataW.Whole.of_heap (w' := w.forCall tape i) (by rfl) hw
  refine (contract (w.forCall tape i) w.heap.size i.args ds gs before hval hw' hc hkk (hX _ _ _ (by rfl) hx) hholds).mono fun e W' ⟨v, he, hp⟩ => ?_
  subst he
  exact ChangeSpec.post_blind hp
theorem cond_witness {C : Checked} {os : Os} {f : FuncId} {fn : Func} {s : OpenSpec} {k : (H : Type) → List (DataW H) → Bool} (hk : s.cond = some k) {conds : List PathCond} {apart : Bool} {X : World → Array Value → Prop} (modest : Bool) (w0 : World) (args : Array Value) (fuel : Nat) (hos : w0.os = os)
    (hsh : (w0.forCall (fun _ _ => 0) ⟨#[], args, []⟩).Shaped C.prog)
    (hok : Input.okWideB C.prog (w0.forCall (fun _ _ => 0) ⟨#[], args, []⟩) f ⟨#[], args, []⟩ = true)
    {x : List (DataW H) × List (DataW H) × List MemPlace} (hx : DataW.whole enc C.prog (w0.forCall (fun _ _ => 0) ⟨#[], args, []⟩).memory fn.params.toList s.vars apart args.toList fuel = some x)
    (hconds : conds.all (PathCond.test C.prog ⟨fn.params.toList, x.1, s.bare.plain.varTypes C.prog, x.2.1⟩) = true) (hkk : k H (x.1 ++ x.2.1) = true)
    (hsz : s.bare.sizedB enc C.prog fn apart (w0.forCall (fun _ _ => 0) ⟨#[], args, []⟩).memory args fuel = true)
    (hX : X (w0.forCall (fun _ _ => 0) ⟨#[], args, []⟩).memory args) :
    ∃ (w : World) (tape : Tape) (i : Input), w.os = os ∧ (w.forCall tape i).Shaped C.prog ∧ i.vars = [] ∧ Input.okWide C.prog (w.forCall tape i) .any w.heap.size f i ∧
      ((s.pre enc C.prog fn conds apart (w.forCall tape i).memory i.args ∧ X (w.forCall tape i).memory i.args) ∧ sizedMet enc C.prog fn s apart (w.forCall tape i).memory i.args) ∧ ({ modest := modest } : Assume).holds C.prog (lone (Frame.enter C.prog f i.args .normal) [] (w.forCall tape i)) :=
  ⟨w0, fun _ _ => 0, ⟨#[], args, []⟩, hos, hsh, (Input.okWide_of_okWideB (base := 0) hok).1, (Input.okWide_of_okWideB hok).2,
    ⟨⟨(OpenSpec.pre_some hk conds apart _ _).2 ⟨x.1, x.2.1, x.2.2, DataW.Whole_of_whole hx, hconds, hkk⟩, hX⟩, sizedMet_of_sizedB hsz⟩, by
    simp only [Assume.holds]
    exact ⟨by simp, by simp, fun _ => Modest.zero, by simp, by simp⟩⟩
end
end Go.Proofs.YtjkmfonngbendaaGreatDoor.Fr
