/- Contract of package hash's Sum: the hash of any text, as a function on its bytes. -/
import Derived.Test.YtjkmfonngbendaaGreatDoorShaE
import Derived.Deep.RegionHeld
namespace Go.Proofs.YtjkmfonngbendaaGreatDoor.Hk
set_option linter.unusedVariables false
open Go.ChangeShapes Go.WideShapes Go.ChangeAt Go.RowKit
variable {tK tS : TypeId}
open Pk (be be_length u8s u8s_length u8s_set u8s_get)
theorem bcell {W w1 : World} (hb : Below W.heap.size W w1) : (∀ b o, b < W.heap.size → w1.cell? ⟨b, o, none⟩ = W.cell? ⟨b, o, none⟩) ∧ (∀ b o, b < W.heap.size → w1.frozen? ⟨b, o, none⟩ = W.frozen? ⟨b, o, none⟩) :=
  ⟨fun b o h => hb.cell (p := ⟨b, o, none⟩) h, fun b o h => hb.frozen (p := ⟨b, o, none⟩) h⟩
def first : St := ⟨0x6a09e667#32, 0xbb67ae85#32, 0x3c6ef372#32, 0xa54ff53a#32, 0x510e527f#32, 0x9b05688c#32, 0x1f83d9ab#32, 0x5be0cd19#32⟩
theorem through_lit (s : St) (K : List (BitVec 32)) (hK : K.length = 64) (x : ByteArray) (n : Nat) (hx : x.size = 64 * n) (hxl : x.size ≤ 281474976710656) (w : World) (hg : 1 < w.heap.size) (hR : Row w 1 tK K) :
    Calls Tryz.prog 66 #[.agg #[.int .u32 (vN s.a), .int .u32 (vN s.b), .int .u32 (vN s.c), .int .u32 (vN s.d), .int .u32 (vN s.e), .int .u32 (vN s.f), .int .u32 (vN s.g), .int .u32 (vN s.h)], .string x] w fun e w' => ∃ p : St, p = pieces K s x.data.toList n ∧ e = .returned (.agg #[.int .u32 (vN p.a), .int .u32 (vN p.b), .int .u32 (vN p.c), .int .u32 (vN p.d), .int .u32 (vN p.e), .int .u32 (vN p.f), .int .u32 (vN p.g), .int .u32 (vN p.h)]) ∧ Below w.heap.size w w' :=
  (through_any s K hK x n hx hxl w hg hR).mono fun _ _ h => ⟨_, rfl, h.1, h.2⟩
theorem row_alloc {W : World} {g : Nat} {t : TypeId} {l : List (BitVec 32)} (h : Row W.drew g t l) (o : Obj) : Row (W.alloc o).drew g t l := by
  have := h.lt
  exact (Below.heap_alloc W o g this).trans h
theorem lt_alloc {W : World} {g : Nat} (h : g < W.drew.heap.size) (o : Obj) : g < (W.alloc o).drew.heap.size := by
  show g < (W.heap.push o).size
  rw [Array.size_push]
  exact Nat.lt_succ_of_lt h
theorem pieces_prefix (K : List (BitVec 32)) (s : St) (a b : List UInt8) (m j : Nat) (ha : a.length = 64 * m) (hj : j ≤ m) : pieces K s (a ++ b) j = pieces K s a j := by
  induction j with
  | zero => rfl
  | succ j ih =>
    rw [pieces, pieces, ih (by omega), List.drop_append_of_le_length (by omega), List.take_append_of_le_length (by rw [List.length_drop]; omega)]
theorem pieces_append (K : List (BitVec 32)) (s : St) (a b : List UInt8) (m n : Nat) (ha : a.length = 64 * m) : pieces K s (a ++ b) (m + n) = pieces K (pieces K s a m) b n := by
  induction n with
  | zero => exact pieces_prefix K s a b m m ha (Nat.le_refl _)
  | succ n ih =>
    rw [← Nat.add_assoc, pieces, ih, pieces, List.drop_append, List.drop_eq_nil_of_le (by omega), List.nil_append, show 64 * (m + n) - a.length = 64 * n by omega]
theorem run_storeAt_row {P : Program} (w : World) (g : Nat) (t ty : TypeId) (old cells : Array Value) (hg : w.heap[g]? = some (.cells old t (0, 0))) (hi : (P.info? ty).map (·.size) = some cells.size)
    (ho : old.size = cells.size) (h1 : cells.all (·.oneCell') = true) : (Instr.storeAt ty (.pointer (some ⟨g, 0, none⟩)) (.agg cells)).run P w = .ok () (w.setRow g cells) := by
  simp only [Instr.storeAt, Instr.sureAddr, Sem.run_bind, Sem.run_pure, Result.andThen_ok, run_storeVar_row w g t ty old cells hg hi ho h1]
theorem padding_lit (n : Nat) (hn : n ≤ 281474976710656) (w : World) :
    Calls Tryz.prog 67 #[.int .i64 n] w fun e w' => ∃ P : ByteArray, P = ⟨(padL n).toArray⟩ ∧ e = .returned (.string P) ∧ Below w.heap.size w w' :=
  (padding_any n hn w).mono fun _ _ h => ⟨_, rfl, h.1, h.2⟩
theorem bytes_lit (s : St) (w : World) :
    Calls Tryz.prog 68 #[.agg #[.int .u32 (vN s.a), .int .u32 (vN s.b), .int .u32 (vN s.c), .int .u32 (vN s.d), .int .u32 (vN s.e), .int .u32 (vN s.f), .int .u32 (vN s.g), .int .u32 (vN s.h)]] w fun e w' => ∃ C, C = (u8s (hashB s)).toArray ∧ e = .returned (.agg C) ∧ Below w.heap.size w w' :=
  (bytes_any s w).mono fun _ _ h => ⟨_, rfl, h.1, h.2⟩
/-- what is known of the world between the two ways through -/
structure Mid (w V : World) (b4 : Nat) (p : St) (K : List (BitVec 32)) (tK : TypeId) : Prop where
  row : Row V b4 122 p.list
  tab : Row V 1 tK K
  res : V.heap[w.heap.size]? = some (.cells (u8s (List.replicate 32 0)).toArray 54 (0, 0))
  bel : Below w.heap.size w V
theorem mid_alloc {w W0 w5 : World} {p : St} {K : List (BitVec 32)} (hb5 : Below W0.drew.heap.size W0.drew w5) (hK : Row W0.drew 1 tK K) (hres : W0.heap[w.heap.size]? = some (.cells (u8s (List.replicate 32 0)).toArray 54 (0, 0))) (hw : w.heap.size < W0.heap.size) (hb0 : Below w.heap.size w W0) :
    Mid w (w5.alloc (.cells (arr p.list) 122)) w5.heap.size p K tK where
  row := heap_alloc_new w5 _
  tab := (Below.heap_alloc w5 _ _ (row_below hK hb5 hK.lt).lt).trans (row_below hK hb5 hK.lt)
  res := (Below.heap_alloc w5 _ _ (Nat.lt_of_lt_of_le hw hb5.size)).trans ((hb5.block _ hw).trans hres)
  bel := ((hb0.drew).trans (hb5.mono (Nat.le_of_lt hw))).alloc (Nat.le_trans (Nat.le_of_lt hw) hb5.size) _
theorem mid_set {w W0 w5 : World} {p : St} {K : List (BitVec 32)} (hb5 : Below (W0.alloc (.cells (arr (List.replicate 8 0#32)) 122)).drew.heap.size (W0.alloc (.cells (arr (List.replicate 8 0#32)) 122)).drew w5) (hK : Row W0.drew 1 tK K) (hres : W0.heap[w.heap.size]? = some (.cells (u8s (List.replicate 32 0)).toArray 54 (0, 0))) (hw : w.heap.size < W0.heap.size) (hb0 : Below w.heap.size w W0) :
    Mid w ((((((((w5.setCell ⟨W0.heap.size, 0, none⟩ (.int .u32 (vN p.a))).setCell ⟨W0.heap.size, 1, none⟩ (.int .u32 (vN p.b))).setCell ⟨W0.heap.size, 2, none⟩ (.int .u32 (vN p.c))).setCell ⟨W0.heap.size, 3, none⟩ (.int .u32 (vN p.d))).setCell ⟨W0.heap.size, 4, none⟩ (.int .u32 (vN p.e))).setCell ⟨W0.heap.size, 5, none⟩ (.int .u32 (vN p.f))).setCell ⟨W0.heap.size, 6, none⟩ (.int .u32 (vN p.g))).setCell ⟨W0.heap.size, 7, none⟩ (.int .u32 (vN p.h))) W0.heap.size p K tK := by
  have hlt : W0.heap.size < (W0.alloc (.cells (arr (List.replicate 8 0#32)) 122)).drew.heap.size := by
    show W0.heap.size < (W0.heap.push _).size
    rw [Array.size_push]; exact Nat.lt_succ_self _
  have hr : Row w5 W0.heap.size 122 (List.replicate 8 0#32) := (hb5.block _ hlt).trans (heap_alloc_new W0 _)
  have hk0 := hK.lt
  have hk : Row w5 1 tK K := (hb5.block _ (Nat.lt_trans hk0 hlt)).trans ((Below.heap_alloc W0 _ _ hk0).trans hK)
  have hr2 : w5.heap[w.heap.size]? = some (.cells (u8s (List.replicate 32 0)).toArray 54 (0, 0)) := (hb5.block _ (Nat.lt_trans hw hlt)).trans ((Below.heap_alloc W0 _ _ hw).trans hres)
  have hb : Below w.heap.size w w5 := ((hb0.alloc (Nat.le_of_lt hw) _).drew).trans (hb5.mono (Nat.le_of_lt (Nat.lt_trans hw hlt)))
  have ne1 : 1 ≠ W0.heap.size := Nat.ne_of_lt hk0
  have ne2 : w.heap.size ≠ W0.heap.size := Nat.ne_of_lt hw
  have oth : ∀ (V : World) (j : Nat) (v : Value), V.heap[w.heap.size]? = some (.cells (u8s (List.replicate 32 0)).toArray 54 (0, 0)) → (V.setCell ⟨W0.heap.size, j, none⟩ v).heap[w.heap.size]? = some (.cells (u8s (List.replicate 32 0)).toArray 54 (0, 0)) :=
    fun V j v h => (heap_setCell_other V ⟨W0.heap.size, j, none⟩ w.heap.size v ne2).trans h
  have le : w.heap.size ≤ W0.heap.size := Nat.le_of_lt hw
  exact ⟨((((((((hr.set 0 p.a).set 1 p.b).set 2 p.c).set 3 p.d).set 4 p.e).set 5 p.f).set 6 p.g).set 7 p.h),
    ((((((((hk.other _ 0 _ ne1).other _ 1 _ ne1).other _ 2 _ ne1).other _ 3 _ ne1).other _ 4 _ ne1).other _ 5 _ ne1).other _ 6 _ ne1).other _ 7 _ ne1),
    oth _ _ _ (oth _ _ _ (oth _ _ _ (oth _ _ _ (oth _ _ _ (oth _ _ _ (oth _ _ _ (oth _ _ _ hr2))))))),
    ((((((((hb.setCell le _).setCell le _).setCell le _).setCell le _).setCell le _).setCell le _).setCell le _).setCell le _)⟩
theorem padL_length (n : Nat) : (padL n).length = 9 + padZ n := by
  unfold padL
  rw [List.length_cons, List.length_append, List.length_replicate, be_length]; omega
theorem pad_bytes {P : ByteArray} {n : Nat} (h : P = ⟨(padL n).toArray⟩) : P.size = 9 + padZ n := by
  rw [h, ← padL_length]; show (padL n).toArray.size = _; rw [List.size_toArray]
theorem pad_le {P : ByteArray} {n : Nat} (h : P = ⟨(padL n).toArray⟩) : P.size ≤ 72 := by
  rw [pad_bytes h]; unfold padZ; omega
theorem tail_size {x P : ByteArray} {m n0 n1 : Nat} (hP : P = ⟨(padL x.size).toArray⟩) (hm : m = 64 * n0) (hn : n0 = x.size / 64) (h1 : n1 = (x.size - m + (9 + padZ x.size)) / 64) : (x.extract m x.size ++ P).size = 64 * n1 := by
  rw [ByteArray.size_append, ByteArray.size_extract, pad_bytes hP, h1]
  unfold padZ
  omega
theorem two_parts (K : List (BitVec 32)) (s : St) {x P : ByteArray} {m n0 n1 : Nat} (hP : P = ⟨(padL x.size).toArray⟩) (hm : m = 64 * n0) (hn : n0 = x.size / 64) (h1 : n1 = (x.size - m + (9 + padZ x.size)) / 64) :
    pieces K (pieces K s (x.extract 0 m).data.toList n0) (x.extract m x.size ++ P).data.toList n1 = pieces K s (x.data.toList ++ padL x.size) ((x.size + (padL x.size).length) / 64) := by
  have hx : x.data.toList.length = x.size := by simp
  have e1 : (x.extract 0 m).data.toList = x.data.toList.take m := by rw [Lib.extract_data]; rfl
  have e2 : (x.extract m x.size ++ P).data.toList = x.data.toList.drop m ++ padL x.size := by
    rw [ByteArray.data_append, Array.toList_append, Lib.extract_data, hP, List.take_of_length_le (by rw [List.length_drop]; omega)]
  rw [e1, e2, ← pieces_append K s _ _ n0 n1 (by rw [List.length_take]; omega), ← List.append_assoc, List.take_append_drop, padL_length]
  congr 1
  have hz : padZ x.size = (119 - x.size % 64) % 64 := rfl
  omega
theorem res_below {W w' : World} {g : Nat} {o : Obj} (h : W.heap[g]? = some o) (hb : Below W.heap.size W w') (hl : g < W.heap.size) : w'.heap[g]? = some o := (hb.block g hl).trans h
theorem obj_lt {W : World} {g : Nat} {o : Obj} (h : W.heap[g]? = some o) : g < W.heap.size := by
  rcases Nat.lt_or_ge g W.heap.size with h' | h'
  · exact h'
  · rw [Array.getElem?_eq_none h'] at h
    cases h
theorem size32 {C : Array Value} {s : St} (h : C = (u8s (hashB s)).toArray) : C.size = 32 := by rw [h, List.size_toArray, u8s_length]; unfold hashB; simp
theorem thirtytwo {C : Array Value} {s : St} (h : C = (u8s (hashB s)).toArray) : (Tryz.prog.info? 54).map (·.size) = some C.size ∧ (u8s (List.replicate 32 0)).toArray.size = C.size ∧ C.all (·.oneCell') = true := by
  have hh : (hashB s).length = 32 := by unfold hashB; simp
  rw [h]
  exact ⟨infoH hh, by rw [List.size_toArray, List.size_toArray, u8s_length, u8s_length, hh, List.length_replicate], u8s_one _⟩
set_option maxRecDepth 100000 in
set_option maxHeartbeats 6000000 in
theorem sum_any (K : List (BitVec 32)) (hK : K.length = 64) (i : St) (x : ByteArray) (hx : x.size ≤ 140737488351232) (w : World) (hg : 1 < w.heap.size) (hg0 : 0 < w.heap.size)
    (hR : Row w 1 tK K) (hR0 : Row w 0 tS i.list) :
    Calls Tryz.prog 33 #[.string x] w fun e w' => e = .returned (.agg (u8s (hashB (pieces K i (x.data.toList ++ padL x.size) ((x.size + (padL x.size).length) / 64)))).toArray) ∧ Below w.heap.size w w' := by
  have HR := Lib.hid hR
  have HR0 := Lib.hid hR0
  obtain ⟨n0, hn0⟩ : ∃ n, n = x.size / 64 := ⟨_, rfl⟩
  obtain ⟨m, hm⟩ : ∃ m, m = 64 * n0 := ⟨_, rfl⟩
  have em : (x.size : Int) - (x.size : Int) % 64 = (m : Int) := by omega
  have hmx : m ≤ x.size := by omega
  have hmx' : (m : Int) ≤ x.size := by omega
  have hm0 : (0 : Int) ≤ m := by omega
  have HM := Lib.hid hm
  have HN := Lib.hid hn0
  clear hR hR0 hm hn0
  go_enter Tryz.func33, Tryz.ntmps33
  go_wp2
  change Code.wp _ _ _ _ (w.alloc (.cells (u8s (List.replicate 32 0)).toArray 54))
  have hb0 : Below w.heap.size w (w.alloc (.cells (u8s (List.replicate 32 0)).toArray 54)) := (Below.refl _ _).alloc (Nat.le_refl _) _
  have hz0 : (w.alloc (.cells (u8s (List.replicate 32 0)).toArray 54)).heap[w.heap.size]? = some (.cells (u8s (List.replicate 32 0)).toArray 54 (0, 0)) := heap_alloc_new w _
  have hwz : w.heap.size < (w.alloc (.cells (u8s (List.replicate 32 0)).toArray 54)).heap.size := by simp
  generalize (w.alloc (.cells (u8s (List.replicate 32 0)).toArray 54)) = W0 at *
  have RK := Lib.hid (show Row W0.drew 1 tK K from row_below HR.out hb0.drew hg)
  have HG := Lib.hid (show 1 < W0.drew.heap.size from Nat.lt_of_lt_of_le hg hb0.size)
  have R0 : Row W0 0 tS i.list := row_below HR0.out hb0 hg0
  have G0 : 0 < W0.heap.size := Nat.lt_of_lt_of_le hg0 hb0.size
  have C0 := R0.eight
  unfold Eight at C0
  obtain ⟨n1, hn1⟩ : ∃ n, n = (x.size - m + (9 + padZ x.size)) / 64 := ⟨_, rfl⟩
  have HN1 := Lib.hid hn1
  clear hn1
  have HSZ := Lib.hid (show (x.extract 0 m).size = 64 * n0 by rw [ByteArray.size_extract]; have := HM.out; omega)
  have HLE := Lib.hid (show (x.extract 0 m).size ≤ 281474976710656 by rw [ByteArray.size_extract]; omega)
  have HZ0 := Lib.hid hz0
  clear R0 hz0
  go_region_with (first
    | (go_at_call 66; (with_reducible refine (through_lit i K hK _ n0 HSZ.out HLE.out _ HG.out RK.out).mono ?_); rintro e w5 ⟨p, hp, rfl, hb5⟩; have HP := Lib.hid hp; clear hp; obtain ⟨hc, hf⟩ := bcell hb5; have HB := Lib.hid hb5; have hl := hb5.size)
    | (go_at_call 66; (with_reducible refine (through_lit i K hK _ n0 HSZ.out HLE.out _ (lt_alloc HG.out _) (row_alloc RK.out _)).mono ?_); rintro e w5 ⟨p, hp, rfl, hb5⟩; have HP := Lib.hid hp; clear hp; obtain ⟨hc, hf⟩ := bcell hb5; have HB := Lib.hid hb5; have hl := hb5.size))
  · have hM := mid_alloc (p := p) HB.out RK.out HZ0.out hwz hb0
    change Exit.then _ _ _ _ (w5.alloc (.cells (arr p.list) 122))
    generalize w5.alloc (.cells (arr p.list) 122) = V at *
    generalize w5.heap.size = b4 at hM ⊢
    clear HB hc hf hl hb5 C0 HZ0 RK HG G0
    have C4 := hM.row.eight
    unfold Eight at C4
    have hb4 := hM.row.lt
    have hb4' : b4 < V.drew.heap.size := hb4
    have RK := Lib.hid (show Row V.drew 1 tK K from hM.tab)
    have RS := Lib.hid (show V.drew.heap[w.heap.size]? = some (.cells (u8s (List.replicate 32 0)).toArray 54 (0, 0)) from hM.res)
    have BV := Lib.hid (show Below w.heap.size w V.drew from hM.bel.drew)
    clear hM
    go_wp2
    go_region_with (first
      | (go_at_call 67; (with_reducible refine (padding_lit x.size (by omega) _).mono ?_); rintro e w6 ⟨P, hP, rfl, hb6⟩; have HPP := Lib.hid hP; have hps := pad_le hP; have HT := Lib.hid (tail_size hP HM.out HN.out HN1.out); clear hP; have C6 := eight_below (w := V.drew) (B := b4) (s := p) C4 hb6 hb4'; unfold Eight at C6; have RK6 := Lib.hid (row_below RK.out hb6 RK.out.lt); have RS6 := Lib.hid (res_below RS.out hb6 (obj_lt RS.out)); have B6 := Lib.hid (BV.out.trans (hb6.mono BV.out.size)))
      | (go_at_call 66; (with_reducible refine (through_lit p K hK _ n1 HT.out (by rw [ByteArray.size_append, ByteArray.size_extract]; omega) _ RK6.out.lt RK6.out).mono ?_); rintro e w7 ⟨p2, hp2, rfl, hb7⟩; have HP2 := Lib.hid hp2; clear hp2; have RS7 := Lib.hid (res_below RS6.out hb7 (obj_lt RS6.out)); have B7 := Lib.hid (B6.out.trans (hb7.mono B6.out.size)))
      | (go_at_call 68; (with_reducible refine (bytes_lit p2 _).mono ?_); rintro e w8 ⟨C, hC, rfl, hb8⟩; have HC := Lib.hid hC; have RS8 := Lib.hid (res_below RS7.out hb8 (obj_lt RS7.out)); have B8 := Lib.hid (B7.out.trans (hb8.mono B7.out.size)); have hst := run_storeAt_row (P := Tryz.prog) w8 w.heap.size 54 54 _ C RS8.out (thirtytwo hC).1 (thirtytwo hC).2.1 (thirtytwo hC).2.2; have hCs := size32 hC; simp [go_sem, hCs] at hst; clear hC))
    all_goals
      go_wp2
      have hg2 := setRow_heap w8 w.heap.size _ C 54 (0, 0) RS8.out
      refine bodyPost_ret (v := .agg C) (results_cell_row rfl _ _ w.heap.size 54 C (0, 0) _ rfl hg2 Tryz.underlying54 rfl (thirtytwo HC.out).1) rfl ⟨?_, below_setRow B8.out (Nat.le_refl _) C⟩
      rw [HC.out, HP2.out, HP.out, two_parts K i HPP.out HM.out HN.out HN1.out]
  · have hM := mid_set (p := p) HB.out RK.out HZ0.out hwz hb0
    generalize ((((((((w5.setCell ⟨W0.heap.size, 0, none⟩ (.int .u32 (vN p.a))).setCell ⟨W0.heap.size, 1, none⟩ (.int .u32 (vN p.b))).setCell ⟨W0.heap.size, 2, none⟩ (.int .u32 (vN p.c))).setCell ⟨W0.heap.size, 3, none⟩ (.int .u32 (vN p.d))).setCell ⟨W0.heap.size, 4, none⟩ (.int .u32 (vN p.e))).setCell ⟨W0.heap.size, 5, none⟩ (.int .u32 (vN p.f))).setCell ⟨W0.heap.size, 6, none⟩ (.int .u32 (vN p.g))).setCell ⟨W0.heap.size, 7, none⟩ (.int .u32 (vN p.h))) = V at *
    generalize W0.heap.size = b4 at hM ⊢
    clear HB hc hf hl hb5 C0 HZ0 RK HG G0
    have C4 := hM.row.eight
    unfold Eight at C4
    have hb4 := hM.row.lt
    have hb4' : b4 < V.drew.heap.size := hb4
    have RK := Lib.hid (show Row V.drew 1 tK K from hM.tab)
    have RS := Lib.hid (show V.drew.heap[w.heap.size]? = some (.cells (u8s (List.replicate 32 0)).toArray 54 (0, 0)) from hM.res)
    have BV := Lib.hid (show Below w.heap.size w V.drew from hM.bel.drew)
    clear hM
    go_wp2
    go_region_with (first
      | (go_at_call 67; (with_reducible refine (padding_lit x.size (by omega) _).mono ?_); rintro e w6 ⟨P, hP, rfl, hb6⟩; have HPP := Lib.hid hP; have hps := pad_le hP; have HT := Lib.hid (tail_size hP HM.out HN.out HN1.out); clear hP; have C6 := eight_below (w := V.drew) (B := b4) (s := p) C4 hb6 hb4'; unfold Eight at C6; have RK6 := Lib.hid (row_below RK.out hb6 RK.out.lt); have RS6 := Lib.hid (res_below RS.out hb6 (obj_lt RS.out)); have B6 := Lib.hid (BV.out.trans (hb6.mono BV.out.size)))
      | (go_at_call 66; (with_reducible refine (through_lit p K hK _ n1 HT.out (by rw [ByteArray.size_append, ByteArray.size_extract]; omega) _ RK6.out.lt RK6.out).mono ?_); rintro e w7 ⟨p2, hp2, rfl, hb7⟩; have HP2 := Lib.hid hp2; clear hp2; have RS7 := Lib.hid (res_below RS6.out hb7 (obj_lt RS6.out)); have B7 := Lib.hid (B6.out.trans (hb7.mono B6.out.size)))
      | (go_at_call 68; (with_reducible refine (bytes_lit p2 _).mono ?_); rintro e w8 ⟨C, hC, rfl, hb8⟩; have HC := Lib.hid hC; have RS8 := Lib.hid (res_below RS7.out hb8 (obj_lt RS7.out)); have B8 := Lib.hid (B7.out.trans (hb8.mono B7.out.size)); have hst := run_storeAt_row (P := Tryz.prog) w8 w.heap.size 54 54 _ C RS8.out (thirtytwo hC).1 (thirtytwo hC).2.1 (thirtytwo hC).2.2; have hCs := size32 hC; simp [go_sem, hCs] at hst; clear hC))
    all_goals
      go_wp2
      have hg2 := setRow_heap w8 w.heap.size _ C 54 (0, 0) RS8.out
      refine bodyPost_ret (v := .agg C) (results_cell_row rfl _ _ w.heap.size 54 C (0, 0) _ rfl hg2 Tryz.underlying54 rfl (thirtytwo HC.out).1) rfl ⟨?_, below_setRow B8.out (Nat.le_refl _) C⟩
      rw [HC.out, HP2.out, HP.out, two_parts K i HPP.out HM.out HN.out HN1.out]
  · have hM := mid_set (p := p) HB.out RK.out HZ0.out hwz hb0
    generalize ((((((((w5.setCell ⟨W0.heap.size, 0, none⟩ (.int .u32 (vN p.a))).setCell ⟨W0.heap.size, 1, none⟩ (.int .u32 (vN p.b))).setCell ⟨W0.heap.size, 2, none⟩ (.int .u32 (vN p.c))).setCell ⟨W0.heap.size, 3, none⟩ (.int .u32 (vN p.d))).setCell ⟨W0.heap.size, 4, none⟩ (.int .u32 (vN p.e))).setCell ⟨W0.heap.size, 5, none⟩ (.int .u32 (vN p.f))).setCell ⟨W0.heap.size, 6, none⟩ (.int .u32 (vN p.g))).setCell ⟨W0.heap.size, 7, none⟩ (.int .u32 (vN p.h))) = V at *
    generalize W0.heap.size = b4 at hM ⊢
    clear HB hc hf hl hb5 C0 HZ0 RK HG G0
    have C4 := hM.row.eight
    unfold Eight at C4
    have hb4 := hM.row.lt
    have hb4' : b4 < V.drew.heap.size := hb4
    have RK := Lib.hid (show Row V.drew 1 tK K from hM.tab)
    have RS := Lib.hid (show V.drew.heap[w.heap.size]? = some (.cells (u8s (List.replicate 32 0)).toArray 54 (0, 0)) from hM.res)
    have BV := Lib.hid (show Below w.heap.size w V.drew from hM.bel.drew)
    clear hM
    go_wp2
    go_region_with (first
      | (go_at_call 67; (with_reducible refine (padding_lit x.size (by omega) _).mono ?_); rintro e w6 ⟨P, hP, rfl, hb6⟩; have HPP := Lib.hid hP; have hps := pad_le hP; have HT := Lib.hid (tail_size hP HM.out HN.out HN1.out); clear hP; have C6 := eight_below (w := V.drew) (B := b4) (s := p) C4 hb6 hb4'; unfold Eight at C6; have RK6 := Lib.hid (row_below RK.out hb6 RK.out.lt); have RS6 := Lib.hid (res_below RS.out hb6 (obj_lt RS.out)); have B6 := Lib.hid (BV.out.trans (hb6.mono BV.out.size)))
      | (go_at_call 66; (with_reducible refine (through_lit p K hK _ n1 HT.out (by rw [ByteArray.size_append, ByteArray.size_extract]; omega) _ RK6.out.lt RK6.out).mono ?_); rintro e w7 ⟨p2, hp2, rfl, hb7⟩; have HP2 := Lib.hid hp2; clear hp2; have RS7 := Lib.hid (res_below RS6.out hb7 (obj_lt RS6.out)); have B7 := Lib.hid (B6.out.trans (hb7.mono B6.out.size)))
      | (go_at_call 68; (with_reducible refine (bytes_lit p2 _).mono ?_); rintro e w8 ⟨C, hC, rfl, hb8⟩; have HC := Lib.hid hC; have RS8 := Lib.hid (res_below RS7.out hb8 (obj_lt RS7.out)); have B8 := Lib.hid (B7.out.trans (hb8.mono B7.out.size)); have hst := run_storeAt_row (P := Tryz.prog) w8 w.heap.size 54 54 _ C RS8.out (thirtytwo hC).1 (thirtytwo hC).2.1 (thirtytwo hC).2.2; have hCs := size32 hC; simp [go_sem, hCs] at hst; clear hC))
    all_goals
      go_wp2
      have hg2 := setRow_heap w8 w.heap.size _ C 54 (0, 0) RS8.out
      refine bodyPost_ret (v := .agg C) (results_cell_row rfl _ _ w.heap.size 54 C (0, 0) _ rfl hg2 Tryz.underlying54 rfl (thirtytwo HC.out).1) rfl ⟨?_, below_setRow B8.out (Nat.le_refl _) C⟩
      rw [HC.out, HP2.out, HP.out, two_parts K i HPP.out HM.out HN.out HN1.out]
end Go.Proofs.YtjkmfonngbendaaGreatDoor.Hk
