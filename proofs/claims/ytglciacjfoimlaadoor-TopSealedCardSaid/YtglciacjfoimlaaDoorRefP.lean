/- Contract of the document's own SHA-256 for a piece (cambiumref02.part). -/
import Derived.Test.YtglciacjfoimlaaDoorRefH
import Derived.StillTailTactics
namespace Go.Proofs.YtglciacjfoimlaaDoor.Hk
set_option linter.unusedVariables false
open Go.ChangeShapes Go.WideShapes Go.ChangeAt Go.RowKit
theorem word_lit (s : ByteArray) (t : Nat) (h : 4 * t + 4 ≤ s.size) (w : World) :
    Calls Tryd.prog 28 #[.string (s.extract (4 * t) s.size)] w fun e w' => e = .returned (.int .u32 (vN (wd s.data.toList t))) ∧ ∃ q, w' = w.drewN q := by
  have hz : (s.extract (4 * t) s.size).size = s.size - 4 * t := by rw [ByteArray.size_extract]; omega
  refine (word_any (s.extract (4 * t) s.size) (by omega) w).mono fun e w' h' => ⟨h'.1.trans (ret_u32 ?_), h'.2⟩
  have key : ∀ j (hj : j < 4), ((s.extract (4 * t) s.size)[j]'(by omega)) = s.data.toList.getD (4 * t + j) 0 := by
    intro j hj
    rw [byte_get, Lib.extract_data, List.getD_eq_getElem?_getD, List.getD_eq_getElem?_getD, List.getElem?_take_of_lt (by omega), List.getElem?_drop]
  rw [key 0 (by omega), key 1 (by omega), key 2 (by omega), key 3 (by omega)]
  rfl
theorem rturned_still (x : BitVec 32) (k : Nat) (hk : 1 ≤ k) (hk2 : k ≤ 31) (w : World) : Calls Tryd.prog 29 #[.int .u32 (vN x), .int .u64 k] w fun e w' => e = .returned (.int .u32 (vN (rr x k))) ∧ w' = w := (rturned_any x k hk hk2 w).mono fun _ _ h => ⟨h.1, h.2.symm⟩
theorem rt7 (x : BitVec 32) (w : World) : Calls Tryd.prog 29 #[.int .u32 (vN x), .int .u64 7] w fun e w' => e = .returned (.int .u32 (vN (rr x 7))) ∧ w = w' := rturned_any x 7 (by omega) (by omega) w
theorem rt18 (x : BitVec 32) (w : World) : Calls Tryd.prog 29 #[.int .u32 (vN x), .int .u64 18] w fun e w' => e = .returned (.int .u32 (vN (rr x 18))) ∧ w = w' := rturned_any x 18 (by omega) (by omega) w
theorem rt17 (x : BitVec 32) (w : World) : Calls Tryd.prog 29 #[.int .u32 (vN x), .int .u64 17] w fun e w' => e = .returned (.int .u32 (vN (rr x 17))) ∧ w = w' := rturned_any x 17 (by omega) (by omega) w
theorem rt19 (x : BitVec 32) (w : World) : Calls Tryd.prog 29 #[.int .u32 (vN x), .int .u64 19] w fun e w' => e = .returned (.int .u32 (vN (rr x 19))) ∧ w = w' := rturned_any x 19 (by omega) (by omega) w
theorem rt6 (x : BitVec 32) (w : World) : Calls Tryd.prog 29 #[.int .u32 (vN x), .int .u64 6] w fun e w' => e = .returned (.int .u32 (vN (rr x 6))) ∧ w = w' := rturned_any x 6 (by omega) (by omega) w
theorem rt11 (x : BitVec 32) (w : World) : Calls Tryd.prog 29 #[.int .u32 (vN x), .int .u64 11] w fun e w' => e = .returned (.int .u32 (vN (rr x 11))) ∧ w = w' := rturned_any x 11 (by omega) (by omega) w
theorem rt25 (x : BitVec 32) (w : World) : Calls Tryd.prog 29 #[.int .u32 (vN x), .int .u64 25] w fun e w' => e = .returned (.int .u32 (vN (rr x 25))) ∧ w = w' := rturned_any x 25 (by omega) (by omega) w
theorem rt2 (x : BitVec 32) (w : World) : Calls Tryd.prog 29 #[.int .u32 (vN x), .int .u64 2] w fun e w' => e = .returned (.int .u32 (vN (rr x 2))) ∧ w = w' := rturned_any x 2 (by omega) (by omega) w
theorem rt13 (x : BitVec 32) (w : World) : Calls Tryd.prog 29 #[.int .u32 (vN x), .int .u64 13] w fun e w' => e = .returned (.int .u32 (vN (rr x 13))) ∧ w = w' := rturned_any x 13 (by omega) (by omega) w
theorem rt22 (x : BitVec 32) (w : World) : Calls Tryd.prog 29 #[.int .u32 (vN x), .int .u64 22] w fun e w' => e = .returned (.int .u32 (vN (rr x 22))) ∧ w = w' := rturned_any x 22 (by omega) (by omega) w
theorem rt_int (x : BitVec 32) (z : Int) (h1 : 1 ≤ z) (h2 : z ≤ 31) (w : World) : Calls Tryd.prog 29 #[.int .u32 (vN x), .int .u64 z] w fun e w' => e = .returned (.int .u32 (vN (rr x z.toNat))) ∧ w' = w := by
  obtain ⟨k, rfl⟩ : ∃ k : Nat, z = (k : Int) := ⟨z.toNat, by omega⟩
  exact rturned_still x k (by omega) (by omega) w
theorem shr3 (x : BitVec 32) : vN x / (8 : Int) = vN (x >>> 3) := by have := vN_shr x 3; simpa using this
theorem shr10 (x : BitVec 32) : vN x / (1024 : Int) = vN (x >>> 10) := by have := vN_shr x 10; simpa using this
def refround (s : St) (k w : BitVec 32) : St := ⟨s.h + (rr s.e 6 ^^^ rr s.e 11 ^^^ rr s.e 25) + ((s.e &&& s.f) ^^^ (~~~s.e &&& s.g)) + k + w + ((rr s.a 2 ^^^ rr s.a 13 ^^^ rr s.a 22) + ((s.a &&& s.b) ||| (s.a &&& s.c) ||| (s.b &&& s.c))), s.a, s.b, s.c, s.d + (s.h + (rr s.e 6 ^^^ rr s.e 11 ^^^ rr s.e 25) + ((s.e &&& s.f) ^^^ (~~~s.e &&& s.g)) + k + w), s.e, s.f, s.g⟩
theorem refround_eq (s : St) (k w : BitVec 32) : refround s k w = s.round k w := by unfold refround; rw [cho_xor]; rfl
theorem info8 {s : St} : (Tryd.prog.info? 42).map (·.size) = some (stV s).size := by kernel_rfl
theorem row_lt {w : World} {b T : Nat} {l : List (BitVec 32)} (h : Row w b T l) : b < w.heap.size := by
  have h' : w.heap[b]? = some (.cells (arr l) T (0, 0)) := h
  exact (Array.getElem?_eq_some_iff.mp h').1
theorem more_row {w : World} {b T : Nat} {l : List (BitVec 32)} (h : Row w b T l) (o : Obj) (cs : Array Value) : Row ((w.alloc o).setRow w.heap.size cs) b T l := by
  have hb := row_lt h
  exact (setRow_other (w.alloc o) w.heap.size b cs (by omega)).trans ((Below.heap_alloc w o b hb).trans h)
def part3 (s q : St) (i : Nat) : List (BitVec 32) := (s.plus q).list.take i ++ s.list.drop i
theorem part3_step (s q : St) (i : Nat) (h : i < 8) : ∃ x y, (part3 s q i)[i]? = some x ∧ q.list[i]? = some y ∧ (part3 s q i).set i (x + y) = part3 s q (i + 1) := by
  match i, h with
  | 0, _ => exact ⟨_, _, rfl, rfl, rfl⟩
  | 1, _ => exact ⟨_, _, rfl, rfl, rfl⟩
  | 2, _ => exact ⟨_, _, rfl, rfl, rfl⟩
  | 3, _ => exact ⟨_, _, rfl, rfl, rfl⟩
  | 4, _ => exact ⟨_, _, rfl, rfl, rfl⟩
  | 5, _ => exact ⟨_, _, rfl, rfl, rfl⟩
  | 6, _ => exact ⟨_, _, rfl, rfl, rfl⟩
  | 7, _ => exact ⟨_, _, rfl, rfl, rfl⟩
theorem start_rows {w w1 : World} {a b c o : Obj} {cs : Array Value} (hb1 : Below (((w.alloc a).alloc b).alloc c).heap.size (((w.alloc a).alloc b).alloc c) w1) :
    ((w1.alloc o).setRow w1.heap.size cs).heap[w.heap.size]? = some a ∧ ((w1.alloc o).setRow w1.heap.size cs).heap[w.heap.size + 1]? = some b ∧ ((w1.alloc o).setRow w1.heap.size cs).heap[w.heap.size + 1 + 1]? = some c ∧ Below w.heap.size w ((w1.alloc o).setRow w1.heap.size cs) ∧ w.heap.size + 1 + 1 < w1.heap.size := by
  have hsz : (((w.alloc a).alloc b).alloc c).heap.size = w.heap.size + 1 + 1 + 1 := by simp
  have hle : w.heap.size + 1 + 1 + 1 ≤ w1.heap.size := by rw [← hsz]; exact hb1.size
  have get : ∀ g v, g < w.heap.size + 1 + 1 + 1 → (((w.alloc a).alloc b).alloc c).heap[g]? = some v → ((w1.alloc o).setRow w1.heap.size cs).heap[g]? = some v := fun g v hg hv =>
    (setRow_other (w1.alloc o) w1.heap.size g cs (by omega)).trans ((Below.heap_alloc w1 o g (by omega)).trans ((hb1.block g (by omega)).trans hv))
  refine ⟨get _ _ (by omega) (alloc3_0 w a b c 0), get _ _ (by omega) (alloc3_1 w a b c 0), get _ _ (by omega) (alloc3_2 w a b c 0), ?_, by omega⟩
  have h3 : Below w.heap.size w (((w.alloc a).alloc b).alloc c) := alloc3_below w a b c 0
  exact below_setRow ((h3.trans (hb1.mono h3.size)).alloc (by omega) o) (by omega) cs
set_option maxRecDepth 100000 in
set_option maxHeartbeats 4000000 in
theorem part_any (s : St) (x : ByteArray) (hx : x.size = 64) (w : World) :
    Calls Tryd.prog 20 #[.agg #[.int .u32 (vN s.a), .int .u32 (vN s.b), .int .u32 (vN s.c), .int .u32 (vN s.d), .int .u32 (vN s.e), .int .u32 (vN s.f), .int .u32 (vN s.g), .int .u32 (vN s.h)], .string x] w fun e w' => e = .returned (.agg (stV (piece kc s x.data.toList))) ∧ Below w.heap.size w w' := by
  have HX := Lib.hid hx
  clear hx
  go_enter Tryd.func20, Tryd.ntmps20
  go_wp2_with (first
    | (go_at_call 27; refine (constants_any _).mono ?_; rintro e w1 ⟨rfl, hb1⟩)
    | (refine wpList_store_row rfl 64 (.tmp 6) (.tmp 23) rfl w1.heap.size (arr kc) rfl rfl 64 (arr (List.replicate 64 0#32)) (heap_alloc_new w1 _) infoKc sizeKc (arr_one kc) ?_))
  obtain ⟨s0, s1, s2, s3, s4⟩ := start_rows (o := .cells (arr (List.replicate 64 0#32)) 64) (cs := arr kc) hb1
  have s5 := setRow_heap (w1.alloc (.cells (arr (List.replicate 64 0#32)) 64)) w1.heap.size _ (arr kc) 64 (0, 0) (heap_alloc_new w1 _)
  change Code.wp _ _ _ _ ((w1.alloc (.cells (arr (List.replicate 64 0#32)) 64)).setRow w1.heap.size (arr kc))
  generalize (w1.alloc (.cells (arr (List.replicate 64 0#32)) 64)).setRow w1.heap.size (arr kc) = V at *
  have S := Lib.hid (And.intro s0 (And.intro s1 (And.intro s2 (And.intro s3 s5))))
  generalize w1.heap.size = b6 at *
  clear s0 s1 s2 s3 s5 hb1
  go_loopw [7] (fun v wr => ∃ t : Nat, t ≤ 64 ∧ v = .int .i64 t ∧ Row wr w.heap.size 42 s.list ∧ Row wr (w.heap.size + 1) 42 (List.replicate 8 0#32) ∧ Row wr (w.heap.size + 1 + 1) 64 (wf (wd x.data.toList) 64 t) ∧ Row wr b6 64 kc ∧ Below w.heap.size w wr) (fun v _ => 64 - (intOf v).toNat)
  case atStart => exact ⟨0, Nat.zero_le _, rfl, S.out.1, S.out.2.1, S.out.2.2.1, S.out.2.2.2.2, S.out.2.2.2.1⟩
  case round =>
    obtain ⟨t, ht, rfl, hr0, hr1, hr2, hr6, hbel⟩ := hrel
    have ne0 : w.heap.size ≠ w.heap.size + 1 + 1 := by omega
    have ne1 : w.heap.size + 1 ≠ w.heap.size + 1 + 1 := by omega
    have ne6 : b6 ≠ w.heap.size + 1 + 1 := by omega
    have NE := Lib.hid (And.intro ne0 (And.intro ne1 ne6))
    clear ne0 ne1 ne6
    by_cases hlt : t < 64
    · obtain ⟨y, hy⟩ : ∃ y, (wf (wd x.data.toList) 64 t)[t]? = some y := ⟨_, List.getElem?_eq_getElem (by rw [wf_length _ _ _ (by omega)]; omega)⟩
      have hc := hr2.cell hy
      have hf := hr2.free t
      by_cases h16 : t < 16
      · have HN := Lib.hid (nxt_low (wd x.data.toList) (wl (wd x.data.toList) t) t h16)
        have R0 := Lib.hid hr0
        have R1 := Lib.hid hr1
        have R2 := Lib.hid hr2
        have R6 := Lib.hid hr6
        have HL := Lib.hid (show 4 * t + 4 ≤ x.size by rw [HX.out]; omega)
        have hi0 : 4 * (t : Int) ≤ x.size := by have := HX.out; omega
        clear hr0 hr1 hr2 hr6 hy
        go_wp2_with (first
          | (go_at_call 28; (with_reducible refine (word_lit x t HL.out _).mono ?_); rintro e w2 ⟨rfl, q, rfl⟩))
        go_roundw
        case rel =>
          have hst := R2.out.set t (wd x.data.toList t)
          have hn := wf_set (wd x.data.toList) 64 t hlt
          rw [HN.out] at hn
          rw [hn] at hst
          exact ⟨t + 1, by omega, by go_num, R0.out.other _ t _ NE.out.1, R1.out.other _ t _ NE.out.2.1, hst, R6.out.other _ t _ NE.out.2.2, ((Below.trans hbel ⟨rfl, rfl, rfl, Nat.le_refl _, fun _ _ => rfl⟩ : Below w.heap.size w (wr.drewN q)).setCell (p := ⟨w.heap.size + 1 + 1, t, none⟩) (by show w.heap.size ≤ w.heap.size + 1 + 1; omega) _)⟩
        case measure => simp [intOf]; omega
      · have h16' : 16 ≤ t := by omega
        obtain ⟨m2, hm2⟩ : ∃ m : Nat, m = t - 2 := ⟨_, rfl⟩
        have g2 := hr2.cell (wf_getD (wd x.data.toList) 64 t m2 (by omega))
        have Q2 := Lib.hid (show IntKind.i64.wrap ((t : Int) - 2) = (m2 : Int) by rw [IntWalk.i64_in _ ⟨by omega, by omega⟩]; omega)
        have n2 : 0 ≤ (m2 : Int) := by omega
        have l2 : (m2 : Int) < 64 := by omega
        obtain ⟨m7, hm7⟩ : ∃ m : Nat, m = t - 7 := ⟨_, rfl⟩
        have g7 := hr2.cell (wf_getD (wd x.data.toList) 64 t m7 (by omega))
        have Q7 := Lib.hid (show IntKind.i64.wrap ((t : Int) - 7) = (m7 : Int) by rw [IntWalk.i64_in _ ⟨by omega, by omega⟩]; omega)
        have n7 : 0 ≤ (m7 : Int) := by omega
        have l7 : (m7 : Int) < 64 := by omega
        obtain ⟨m15, hm15⟩ : ∃ m : Nat, m = t - 15 := ⟨_, rfl⟩
        have g15 := hr2.cell (wf_getD (wd x.data.toList) 64 t m15 (by omega))
        have Q15 := Lib.hid (show IntKind.i64.wrap ((t : Int) - 15) = (m15 : Int) by rw [IntWalk.i64_in _ ⟨by omega, by omega⟩]; omega)
        have n15 : 0 ≤ (m15 : Int) := by omega
        have l15 : (m15 : Int) < 64 := by omega
        obtain ⟨m16, hm16⟩ : ∃ m : Nat, m = t - 16 := ⟨_, rfl⟩
        have g16 := hr2.cell (wf_getD (wd x.data.toList) 64 t m16 (by omega))
        have Q16 := Lib.hid (show IntKind.i64.wrap ((t : Int) - 16) = (m16 : Int) by rw [IntWalk.i64_in _ ⟨by omega, by omega⟩]; omega)
        have n16 : 0 ≤ (m16 : Int) := by omega
        have l16 : (m16 : Int) < 64 := by omega
        have HD := Lib.hid hr2
        have R0 := Lib.hid hr0
        have R1 := Lib.hid hr1
        have R6 := Lib.hid hr6
        have hn := nxt_high (wd x.data.toList) (wl (wd x.data.toList) t) t h16
        rw [← hm2, ← hm7, ← hm15, ← hm16] at hn
        have HN := Lib.hid hn
        clear hr0 hr1 hr2 hr6 hy hn hm2 hm7 hm15 hm16 h16
        generalize (wl (wd x.data.toList) t).getD m2 0 = x2 at *
        generalize (wl (wd x.data.toList) t).getD m7 0 = x7 at *
        generalize (wl (wd x.data.toList) t).getD m15 0 = x15 at *
        generalize (wl (wd x.data.toList) t).getD m16 0 = x16 at *
        have t0 : 0 ≤ (t : Int) := by omega
        have t1 : (t : Int) < 64 := by omega
        have t2 : (16 : Int) ≤ (t : Int) := by omega
        go_wp2
        have q2 := Q2.out
        have q15 := Q15.out
        go_quiet (fail)
        clear q2 q15
        have G7 := Lib.hid (show (wr.drewN nq).cell? ⟨w.heap.size + 1 + 1, m7, none⟩ = some (.int .u32 (vN x7)) from g7)
        have G16 := Lib.hid (show (wr.drewN nq).cell? ⟨w.heap.size + 1 + 1, m16, none⟩ = some (.int .u32 (vN x16)) from g16)
        have HC := Lib.hid (show (wr.drewN nq).cell? ⟨w.heap.size + 1 + 1, t, none⟩ = some (.int .u32 (vN y)) from hc)
        have HF := Lib.hid (show (wr.drewN nq).frozen? ⟨w.heap.size + 1 + 1, t, none⟩ = false from hf)
        have D0 := Lib.hid (show Row (wr.drewN nq) w.heap.size 42 s.list from R0.out)
        have D1 := Lib.hid (show Row (wr.drewN nq) (w.heap.size + 1) 42 (List.replicate 8 0#32) from R1.out)
        have D2 := Lib.hid (show Row (wr.drewN nq) (w.heap.size + 1 + 1) 64 (wf (wd x.data.toList) 64 t) from HD.out)
        have D6 := Lib.hid (show Row (wr.drewN nq) b6 64 kc from R6.out)
        have BEL : Below w.heap.size w (wr.drewN nq) := hbel.trans ⟨rfl, rfl, rfl, Nat.le_refl _, fun _ _ => rfl⟩
        have BEL := Lib.hid BEL
        clear g2 g7 g15 g16 hc hf R0 R1 HD R6 hbel
        generalize wr.drewN nq = w2 at *
        have v0 := vN_lo x15
        have v1 := vN_hi x15
        have v2 := vN_lo x2
        have v3 := vN_hi x2
        have Y := vN_xor
        have S3 := shr3 x15
        have S10 := shr10 x2
        go_wp2_with (first
          | (go_at_call 29; (with_reducible refine (rt7 _ _).mono ?_); rintro e w' ⟨rfl, rfl⟩)
          | (go_at_call 29; (with_reducible refine (rt18 _ _).mono ?_); rintro e w' ⟨rfl, rfl⟩)
          | (go_at_call 29; (with_reducible refine (rt17 _ _).mono ?_); rintro e w' ⟨rfl, rfl⟩)
          | (go_at_call 29; (with_reducible refine (rt19 _ _).mono ?_); rintro e w' ⟨rfl, rfl⟩))
        clear Y S3 S10 v0 v1 v2 v3
        have hc := HC.out
        have hf := HF.out
        have g7 := G7.out
        have g16 := G16.out
        have q7 := Q7.out
        have q16 := Q16.out
        have X := vN_wadd
        go_still_tail 15, (by kernel_rfl)
        change wpList _ _ _ _ _ w2.drew
        have hc' : w2.drew.cell? ⟨w.heap.size + 1 + 1, t, none⟩ = some (.int .u32 (vN y)) := hc
        have hf' : w2.drew.frozen? ⟨w.heap.size + 1 + 1, t, none⟩ = false := hf
        have E0 := Lib.hid (show Row w2.drew w.heap.size 42 s.list from D0.out)
        have E1 := Lib.hid (show Row w2.drew (w.heap.size + 1) 42 (List.replicate 8 0#32) from D1.out)
        have E2 := Lib.hid (show Row w2.drew (w.heap.size + 1 + 1) 64 (wf (wd x.data.toList) 64 t) from D2.out)
        have E6 := Lib.hid (show Row w2.drew b6 64 kc from D6.out)
        have BEL' := Lib.hid (show Below w.heap.size w w2.drew from BEL.out.drew)
        clear hc hf g7 g16 q7 q16 D0 D1 D2 D6 BEL G7 G16 HC HF
        generalize w2.drew = w3 at *
        go_wp2
        go_roundw
        case rel =>
          have hs1 := E2.out.set t (sp1 x2 + x7 + sp0 x15 + x16)
          have hn := wf_set (wd x.data.toList) 64 t hlt
          rw [HN.out] at hn
          rw [hn] at hs1
          exact ⟨t + 1, by omega, by go_num, E0.out.other _ t _ NE.out.1, E1.out.other _ t _ NE.out.2.1, hs1, E6.out.other _ t _ NE.out.2.2, BEL'.out.setCell (p := ⟨w.heap.size + 1 + 1, t, none⟩) (by show w.heap.size ≤ w.heap.size + 1 + 1; omega) _⟩
        case measure => simp [intOf]; omega
    · obtain rfl : t = 64 := by omega
      rw [wf_all] at hr2
      obtain ⟨wo, rfl⟩ : ∃ wo : World, wo = wr := ⟨_, rfl⟩
      have H0 := Lib.hid hr0
      have H1 := Lib.hid hr1
      have H2 := Lib.hid hr2
      have H6 := Lib.hid hr6
      clear hr0 hr1 hr2 hr6
      go_wp2_with (first
        | (refine wpList_load_row rfl 42 (.tmp 2) rfl w.heap.size rfl 42 (stV s) (0, 0) _ H0.out Tryd.underlying42 rfl info8 ?_)
        | (refine wpList_store_row rfl 42 (.tmp 12) (.tmp 76) rfl wo.heap.size (stV s) rfl rfl 42 (arr (List.replicate 8 0#32)) (heap_alloc_new wo _) info8 rfl (stV_one s) ?_))
      have P0 := Lib.hid (more_row H0.out (.cells (arr (List.replicate 8 0#32)) 42) (stV s))
      have P1 := Lib.hid (more_row H1.out (.cells (arr (List.replicate 8 0#32)) 42) (stV s))
      have P2 := Lib.hid (more_row H2.out (.cells (arr (List.replicate 8 0#32)) 42) (stV s))
      have P6 := Lib.hid (more_row H6.out (.cells (arr (List.replicate 8 0#32)) 42) (stV s))
      have P12 := Lib.hid (show Row ((wo.alloc (.cells (arr (List.replicate 8 0#32)) 42)).setRow wo.heap.size (stV s)) wo.heap.size 42 s.list from setRow_heap (wo.alloc (.cells (arr (List.replicate 8 0#32)) 42)) wo.heap.size _ (stV s) 42 (0, 0) (heap_alloc_new wo _))
      have PB := Lib.hid (show Below w.heap.size w ((wo.alloc (.cells (arr (List.replicate 8 0#32)) 42)).setRow wo.heap.size (stV s)) from below_setRow (hbel.alloc hbel.size _) hbel.size _)
      have N := Lib.hid (show w.heap.size ≠ wo.heap.size ∧ w.heap.size + 1 ≠ wo.heap.size ∧ w.heap.size + 1 + 1 ≠ wo.heap.size ∧ b6 ≠ wo.heap.size ∧ w.heap.size ≤ wo.heap.size by
        have := row_lt H0.out; have := row_lt H1.out; have := row_lt H2.out; have := row_lt H6.out; omega)
      clear H0 H1 H2 H6 hbel
      change Code.wp _ _ _ _ ((wo.alloc (.cells (arr (List.replicate 8 0#32)) 42)).setRow wo.heap.size (stV s))
      generalize ((wo.alloc (.cells (arr (List.replicate 8 0#32)) 42)).setRow wo.heap.size (stV s)) = V2 at *
      generalize wo.heap.size = b12 at *
      obtain ⟨W, hW⟩ : ∃ W, W = wl (wd x.data.toList) 64 := ⟨_, rfl⟩
      rw [← hW] at P2
      have HL := Lib.hid (show W.length = 64 by rw [hW, wl_length])
      have HW := Lib.hid hW
      clear hW
      go_loopw [13] (fun v wr => ∃ t : Nat, ∃ q : St, t ≤ 64 ∧ v = .int .i64 t ∧ q = rounds8 kc W s t ∧ Row wr w.heap.size 42 s.list ∧ Row wr (w.heap.size + 1) 42 (List.replicate 8 0#32) ∧ Row wr (w.heap.size + 1 + 1) 64 W ∧ Row wr b6 64 kc ∧ Row wr b12 42 q.list ∧ Below w.heap.size w wr) (fun v _ => 64 - (intOf v).toNat)
      case atStart => exact ⟨0, s, Nat.zero_le _, rfl, rfl, P0.out, P1.out, P2.out, P6.out, P12.out, PB.out⟩
      case round =>
        obtain ⟨t, q, ht, rfl, hq, r0, r1, r2, r6, r12, hbel⟩ := hrel
        have HQ := Lib.hid hq
        clear hq
        by_cases hlt : t < 64
        · obtain ⟨wt, hwt⟩ : ∃ x, W[t]? = some x := ⟨_, List.getElem?_eq_getElem (by rw [HL.out]; exact hlt)⟩
          obtain ⟨kt, hkt⟩ : ∃ x, kc[t]? = some x := ⟨_, List.getElem?_eq_getElem (by rw [kc_length]; exact hlt)⟩
          have HN := Lib.hid (show rounds8 kc W s (t + 1) = refround q kt wt by rw [refround_eq, rounds8, ← HQ.out, List.getD_eq_getElem?_getD, List.getD_eq_getElem?_getD, hwt, hkt]; rfl)
          have KW := Lib.hid hwt
          have KK := Lib.hid hkt
          have R0 := Lib.hid r0
          have R1 := Lib.hid r1
          have R2 := Lib.hid r2
          have R6 := Lib.hid r6
          have R12 := Lib.hid r12
          have a0 := r12.cell (j := 0) (x := q.a) rfl
          have a1 := r12.cell (j := 1) (x := q.b) rfl
          have a2 := r12.cell (j := 2) (x := q.c) rfl
          have a4 := r12.cell (j := 4) (x := q.e) rfl
          have a5 := r12.cell (j := 5) (x := q.f) rfl
          have a6 := r12.cell (j := 6) (x := q.g) rfl
          clear hwt hkt r0 r1 r2 r6 r12
          have t0 : 0 ≤ (t : Int) := by omega
          have t1 : (t : Int) < 64 := by omega
          go_wp2
          go_quiet (fail)
          clear a0 a1 a2 a4 a5 a6
          have D0 := Lib.hid (show Row (wr.drewN nq) w.heap.size 42 s.list from R0.out)
          have D1 := Lib.hid (show Row (wr.drewN nq) (w.heap.size + 1) 42 (List.replicate 8 0#32) from R1.out)
          have D2 := Lib.hid (show Row (wr.drewN nq) (w.heap.size + 1 + 1) 64 W from R2.out)
          have D6 := Lib.hid (show Row (wr.drewN nq) b6 64 kc from R6.out)
          have D12 := Lib.hid (show Row (wr.drewN nq) b12 42 q.list from R12.out)
          have BEL : Below w.heap.size w (wr.drewN nq) := hbel.trans ⟨rfl, rfl, rfl, Nat.le_refl _, fun _ _ => rfl⟩
          have HBEL := Lib.hid BEL
          clear R0 R1 R2 R6 R12 hbel BEL
          generalize wr.drewN nq = w2 at *
          have a7 := D12.out.cell (j := 7) (x := q.h) rfl
          have cw := D2.out.cell KW.out
          have ck := D6.out.cell KK.out
          have X := vN_wadd
          have Y := vN_xor
          have A := vN_and
          have I : ∀ x : BitVec 32, bits BinOp.xor IntKind.u32 (if IntKind.u32.signed = true then -1 else IntKind.u32.max) (vN x) = vN (~~~x) := fun x => vN_inv x
          go_wp2
          go_quiet ((go_at_call 29; exact Calls.quiet_of_same (rt_int _ _ (by omega) (by omega) _)))
          clear a7 cw ck I
          have E0 := Lib.hid (show Row (w2.drewN nq) w.heap.size 42 s.list from D0.out)
          have E1 := Lib.hid (show Row (w2.drewN nq) (w.heap.size + 1) 42 (List.replicate 8 0#32) from D1.out)
          have E2 := Lib.hid (show Row (w2.drewN nq) (w.heap.size + 1 + 1) 64 W from D2.out)
          have E6 := Lib.hid (show Row (w2.drewN nq) b6 64 kc from D6.out)
          have E12 := Lib.hid (show Row (w2.drewN nq) b12 42 q.list from D12.out)
          have BEL : Below w.heap.size w (w2.drewN nq) := HBEL.out.trans ⟨rfl, rfl, rfl, Nat.le_refl _, fun _ _ => rfl⟩
          have EBEL := Lib.hid BEL
          clear D0 D1 D2 D6 D12 HBEL BEL
          generalize w2.drewN nq = w3 at *
          have a3 := E12.out.cell (j := 3) (x := q.d) rfl
          have O := vN_or
          go_wp2_with (first
            | (go_at_call 29; (with_reducible refine (rt2 _ _).mono ?_); rintro e w' ⟨rfl, rfl⟩)
            | (go_at_call 29; (with_reducible refine (rt13 _ _).mono ?_); rintro e w' ⟨rfl, rfl⟩)
            | (go_at_call 29; (with_reducible refine (rt22 _ _).mono ?_); rintro e w' ⟨rfl, rfl⟩)
            | (refine wpList_store_row rfl 42 (.tmp 12) (.tmp 154) rfl b12 (stV (refround q kt wt)) rfl rfl 42 (stV q) E12.out info8 rfl (stV_one _) ?_))
          go_roundw
          case rel =>
            have hst : Row (w3.setRow b12 (stV (refround q kt wt))) b12 42 (refround q kt wt).list := setRow_heap w3 b12 (stV q) (stV (refround q kt wt)) 42 (0, 0) E12.out
            exact ⟨t + 1, refround q kt wt, by omega, by go_num, HN.out.symm, (setRow_other w3 b12 _ _ N.out.1).trans E0.out, (setRow_other w3 b12 _ _ N.out.2.1).trans E1.out, (setRow_other w3 b12 _ _ N.out.2.2.1).trans E2.out, (setRow_other w3 b12 _ _ N.out.2.2.2.1).trans E6.out, hst, below_setRow EBEL.out N.out.2.2.2.2 _⟩
          case measure => simp [intOf]; omega
        · obtain rfl : t = 64 := by omega
          obtain ⟨wo, rfl⟩ : ∃ wo : World, wo = wr := ⟨_, rfl⟩
          have R0 := Lib.hid r0
          have R1 := Lib.hid r1
          have R12 := Lib.hid r12
          have BEL := Lib.hid hbel
          clear r0 r1 r2 r6 r12 hbel P0 P1 P2 P6 P12 PB
          go_wp2
          go_loopw [155] (fun v wr => ∃ i : Nat, i ≤ 8 ∧ v = .int .i64 i ∧ Row wr w.heap.size 42 (part3 s q i) ∧ Row wr (w.heap.size + 1) 42 (List.replicate 8 0#32) ∧ Row wr b12 42 q.list ∧ Below w.heap.size w wr) (fun v _ => 8 - (intOf v).toNat)
          case atStart => exact ⟨0, Nat.zero_le _, rfl, R0.out, R1.out, R12.out, BEL.out⟩
          case round =>
            obtain ⟨i, hi, rfl, r0, r1, r12, hbel⟩ := hrel
            by_cases hlt : i < 8
            · obtain ⟨xa, xb, h1, h2, h3⟩ := part3_step s q i hlt
              have hc := r0.cell h1
              have hf := r0.free i
              have cv := r12.cell h2
              have E0 := Lib.hid (show Row wr.drew w.heap.size 42 (part3 s q i) from r0)
              have E1 := Lib.hid (show Row wr.drew (w.heap.size + 1) 42 (List.replicate 8 0#32) from r1)
              have E12 := Lib.hid (show Row wr.drew b12 42 q.list from r12)
              have BEL' := Lib.hid (show Below w.heap.size w wr.drew from hbel.drew)
              have H3 := Lib.hid h3
              clear h1 h2 h3 r0 r1 r12 hbel
              have t0 : 0 ≤ (i : Int) := by omega
              have t1 : (i : Int) < 8 := by omega
              have X := vN_wadd
              go_wp2
              go_still_tail 8, (by kernel_rfl)
              change wpList _ _ _ _ _ wr.drew
              have hc' : wr.drew.cell? ⟨w.heap.size, i, none⟩ = some (.int .u32 (vN xa)) := hc
              have hf' : wr.drew.frozen? ⟨w.heap.size, i, none⟩ = false := hf
              clear hc hf cv
              generalize wr.drew = w3 at *
              go_wp2
              go_roundw
              case rel =>
                have hs1 := E0.out.set i (xa + xb)
                rw [H3.out] at hs1
                repeat apply Exists.intro
                exact ⟨⟨i + 1, by omega, by go_num, hs1, E1.out.other _ i _ (by omega), E12.out.other _ i _ (Ne.symm N.out.1), BEL'.out.setCell (p := ⟨w.heap.size, i, none⟩) (by show w.heap.size ≤ w.heap.size; omega) _⟩, rfl⟩
              case measure => simp [intOf]; omega
            · obtain rfl : i = 8 := by omega
              have Z0 := Lib.hid (show Row wr w.heap.size 42 (s.plus q).list from r0)
              have Z1 := Lib.hid r1
              clear r0 r1 r12
              go_wp2_with (first
                | (refine wpList_load_row rfl 42 (.tmp 2) rfl w.heap.size rfl 42 (stV (s.plus q)) (0, 0) _ Z0.out Tryd.underlying42 rfl info8 ?_)
                | (refine wpList_store_row rfl 42 (.tmp 4) (.tmp 167) rfl (w.heap.size + 1) (stV (s.plus q)) rfl rfl 42 (arr (List.replicate 8 0#32)) Z1.out info8 rfl (stV_one _) ?_))
              have hg2 := setRow_heap wr (w.heap.size + 1) (arr (List.replicate 8 0#32)) (stV (s.plus q)) 42 (0, 0) Z1.out
              exact bodyPost_ret (v := .agg (stV (s.plus q))) (results_cell_row rfl _ _ (w.heap.size + 1) 42 (stV (s.plus q)) (0, 0) _ rfl hg2 Tryd.underlying42 rfl info8) rfl ⟨by rw [HQ.out, HW.out]; rfl, below_setRow hbel (by omega) _⟩
end Go.Proofs.YtglciacjfoimlaaDoor.Hk
