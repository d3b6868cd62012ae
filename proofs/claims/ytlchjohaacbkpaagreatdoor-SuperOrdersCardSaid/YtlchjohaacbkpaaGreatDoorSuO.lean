/- Contracts of package super: the two superblocks in their order. -/
import Derived.Test.YtlchjohaacbkpaaGreatDoorZrg
import Derived.Test.YtlchjohaacbkpaaGreatDoorSuK
import Derived.Test.YtlchjohaacbkpaaGreatDoorZss
import Derived.Test.YtlchjohaacbkpaaGreatDoorNdH
namespace Go.Proofs.YtlchjohaacbkpaaGreatDoor.Sp
set_option linter.unusedVariables false
set_option linter.unusedSimpArgs false
open Go.ChangeShapes Go.WideShapes Go.ChangeAt Go.RowKit
open Nd Rg Ar
open BigFrame
open Pk (be num be_length u8s u8s_length)
open Sq (OncHeld oncBeg oncEnd do_first)
theorem infS : (Tryz.prog.info? 44).map (fun i => (i.zero, i.size, i.bytes)) = some (some (.agg zS), 35, 56) := by kernel_rfl
abbrev MkS (w wr : World) (v : Value) (D : List Su) : Prop := Mk Ss.enc 35 44 w wr v D
theorem encS_sz (s : Su) : 35 = (Ss.enc s).toArray.size := by rw [List.size_toArray, Ss.enc_len]
theorem infoSe (s : Su) : (Tryz.prog.info? 44).map (·.size) = some (Ss.enc s).toArray.size := by rw [← encS_sz]; exact infoS35
section
variable {o : Oper} {a : Act} {K : Act → World → Prop} {Q : Exit → Act → World → Prop} {ops : Array Oper} {rest : List Oper} {w wr : World} {v : Value}
theorem op_catS {D : List Su} (hM : MkS w wr v D) (y : Su) (g c : Nat) {t : TypeId} {f : Nat × Nat} (hrow : wr.heap[g]? = some (.cells (Ss.enc y).toArray t f)) (hlen : D.length + 1 ≤ 2513169434916)
    (s x : Operand) (ho : o.op = .call { callee := .builtin .append, args := #[s, x], argTypes := #[51, 51] }) (hs : a.eval s = v) (hx : a.eval x = .slice (some ⟨g, 0, none⟩) 1 c)
    (h : ∀ v' w', MkS w w' v' (D ++ [y]) → wr.grownBy w' v.ownBlock → (v'.ownBlock = v.ownBlock ∨ v'.ownBlock = some wr.heap.size) → K (a.put o.dst v') w') : Oper.wp Tryz.prog o a wr K Q := by
  obtain ⟨i0, hi, hz0, hz1, hz2⟩ := info_parts infS
  exact op_cat 51 i0 _ 56 Tryz.underlying51 hi hz0 hz1 hz2 rfl (by decide) Ss.enc_len Ss.enc_one hM y g c hrow (by unfold maxLen; omega) (by omega) s x ho hs hx h
theorem op_oneS (x : Operand) (y : Su) (ho : o.op = .buildSlice 51 1 #[(0, x)]) (hx : a.eval x = .agg (Ss.enc y).toArray) (h : K (a.put o.dst (.slice (some ⟨w.heap.size, 0, none⟩) 1 1)) (w.alloc (.cells (Ss.enc y).toArray 44))) : Oper.wp Tryz.prog o a w K Q := by
  obtain ⟨i0, hi, hz0, hz1, hz2⟩ := info_parts infS
  exact op_slice1 _ _ x i0 _ _ ho hx Tryz.underlying51 hi hz0 (hz1.trans (encS_sz y)) (by rw [← encS_sz y]; decide) (by rw [← encS_sz y]; decide) h
end
theorem row_run' {P : Program} {ev : Operand → Value} {o : Oper} {w : World} (ty : TypeId) {x : Operand} (ho : o.op = .load ty x) (b : Nat) (hx : ev x = .pointer (some ⟨b, 0, none⟩)) (cs : Array Value) (t : TypeId) (fr : Nat × Nat) (d : TypeDesc) (hg : w.heap[b]? = some (.cells cs t fr))
    (hu : P.underlying ty = some d) (hd : (match d with | .struct _ | .array _ _ => true | _ => false) = true) (hi : (P.info? ty).map (·.size) = some cs.size) : (execOp ev o).run P w = .ok (.value (.agg cs)) w := by
  unfold execOp
  simp only [ho, hx, Instr.loadAt, Instr.sureAddr, Sem.run_bind, Sem.run_pure, Result.andThen_ok, run_loadVar_row w b t ty cs fr d hg hu hd hi]
/-- the row of two slots at work -/
def prC (a b : ByteArray) (v : Value) : Array Value := #[.string a, .string b, .int .u32 0, .int .i32 1, .int .u32 0, v]
def PrAt (w : World) (g : Nat) (a b : ByteArray) (v : Value) : Prop := w.heap[g]? = some (.cells (prC a b v) 113 (0, 0))
theorem PrAt.c0 {w : World} {g : Nat} {a b : ByteArray} {v : Value} (h : PrAt w g a b v) : w.cell? ⟨g, 0, none⟩ = some (.string a) := cell_of_row _ _ 0 _ _ _ h
theorem PrAt.c1 {w : World} {g : Nat} {a b : ByteArray} {v : Value} (h : PrAt w g a b v) : w.cell? ⟨g, 1, none⟩ = some (.string b) := cell_of_row _ _ 1 _ _ _ h
theorem PrAt.c2 {w : World} {g : Nat} {a b : ByteArray} {v : Value} (h : PrAt w g a b v) : w.cell? ⟨g, 2, none⟩ = some (.int .u32 0) := cell_of_row _ _ 2 _ _ _ h
theorem PrAt.c3 {w : World} {g : Nat} {a b : ByteArray} {v : Value} (h : PrAt w g a b v) : w.cell? ⟨g, 3, none⟩ = some (.int .i32 1) := cell_of_row _ _ 3 _ _ _ h
theorem PrAt.c5 {w : World} {g : Nat} {a b : ByteArray} {v : Value} (h : PrAt w g a b v) : w.cell? ⟨g, 5, none⟩ = some v := cell_of_row _ _ 5 _ _ _ h
theorem PrAt.fr {w : World} {g : Nat} {a b : ByteArray} {v : Value} (h : PrAt w g a b v) (i : Nat) : w.frozen? ⟨g, i, none⟩ = false := frozen_of_row w g _ _ _ h
theorem PrAt.held {w : World} {g : Nat} {a b : ByteArray} {v : Value} (h : PrAt w g a b v) : OncHeld w g := ⟨⟨h.c2, h.c3⟩, h.fr 2, h.fr 3⟩
theorem PrAt.lt {w : World} {g : Nat} {a b : ByteArray} {v : Value} (h : PrAt w g a b v) : g < w.heap.size := row_lt h
theorem PrAt.below {w w' : World} {g : Nat} {a b : ByteArray} {v : Value} (h : PrAt w g a b v) (hb : Below w.heap.size w w') : PrAt w' g a b v := (hb.block g h.lt).trans h
theorem PrAt.put {w : World} {g : Nat} {a b : ByteArray} {v u : Value} (h : PrAt w g a b v) : PrAt (w.setCell ⟨g, 5, none⟩ u) g a b u := by
  unfold PrAt prC at *
  simp [World.setCell, h, Array.getElem?_modify]
/-- the list so far, in a block of the call's own -/
structure Mo (wb wr : World) (g : Nat) (a b : ByteArray) (L : List Su) : Prop where
  at_ : wb.heap.size ≤ g
  ex : ∃ v, PrAt wr g a b v ∧ MkS wb wr v L ∧ (L = [] → v = .slice none 0 0)
theorem Mo.below {wb wr w' : World} {g : Nat} {a b : ByteArray} {L : List Su} (h : Mo wb wr g a b L) (hb : Below wr.heap.size wr w') : Mo wb w' g a b L := by
  obtain ⟨h0, v, h1, h2, h3⟩ := h
  exact ⟨h0, v, h1.below hb, h2.go hb, h3⟩
/-- one superblock behind the others -/
theorem Mo.more {wb w6 : World} {g : Nat} {a b : ByteArray} {L : List Su} {v v6 : Value} (hg : wb.heap.size ≤ g) (hr6 : PrAt w6 g a b v) (h6 : MkS wb w6 v6 L) (hne : L ≠ []) : Mo wb (w6.setCell ⟨g, 5, none⟩ v6) g a b L :=
  ⟨hg, v6, hr6.put, h6.grownQ (grown_setCell w6 ⟨g, 5, none⟩ v6) hg (h6.off hr6 (by decide)), fun e => absurd e hne⟩
def dat (a b : ByteArray) (i : Nat) : ByteArray := if i = 0 then a else b
def soFar (a b : ByteArray) (i : Nat) : List Su := (if i = 0 then [] else inS a 0) ++ (if i < 2 then [] else inS b 1)
theorem inS_yes {d : ByteArray} {i : Nat} (h : IsS d) (hs : slotS (tkS d) = i) : inS d i = [tkS d] := if_pos ⟨h, hs⟩
theorem inS_no {d : ByteArray} {i : Nat} (h : ¬ (IsS d ∧ slotS (tkS d) = i)) : inS d i = [] := if_neg h
theorem soFar_0 (a b : ByteArray) : soFar a b 0 = [] := rfl
theorem soFar_1 (a b : ByteArray) : soFar a b 1 = inS a 0 := by unfold soFar; simp
theorem soFar_2 (a b : ByteArray) : soFar a b 2 = inS a 0 ++ inS b 1 := by unfold soFar; simp
theorem soFar_next (a b : ByteArray) (i : Nat) (hi : i < 2) : soFar a b (i + 1) = soFar a b i ++ inS (dat a b i) i := by
  rcases (show i = 0 ∨ i = 1 by omega) with rfl | rfl
  · rw [soFar_1, soFar_0]; rfl
  · rw [soFar_2, soFar_1]; rfl
theorem soFar_few (a b : ByteArray) (i : Nat) : (soFar a b i).length ≤ 2 := by
  have k : ∀ d j, (inS d j).length ≤ 1 := fun d j => by rcases inS_cases d j with h | ⟨s, h, _⟩ <;> rw [h] <;> simp
  unfold soFar
  rw [List.length_append]
  have h0 := k a 0
  have h1 := k b 1
  split <;> split <;> simp <;> omega
theorem de_is {d : ByteArray} (h : IsS d) : deV d = tkS d ∧ deX d = 0 := de_yes h
theorem de_isn {d : ByteArray} (h : ¬ IsS d) : deX d = 9 := (de_no h).2
theorem enc_tk (d : ByteArray) : vS (deV d) = .agg (Ss.enc (deV d)).toArray := by unfold vS; rw [Ss.enc_of (deV_lim d).2.2.2]
theorem idx2_0 (a b : ByteArray) (w : World) : (Instr.index 100 (.agg #[.string a, .string b]) (.int .i64 0)).run Tryz.prog w = .ok (.string a) w := by
  simp [Instr.index, run_underlying Tryz.underlying100, asIntOf, go_sem]
theorem idx2_1 (a b : ByteArray) (w : World) : (Instr.index 100 (.agg #[.string a, .string b]) (.int .i64 1)).run Tryz.prog w = .ok (.string b) w := by
  simp [Instr.index, run_underlying Tryz.underlying100, asIntOf, go_sem]
/-- what the sort makes of the two -/
theorem sorted_two {a b : ByteArray} {Z : List Su} (hl : Z.length = (soFar a b 2).length) (hs : St.Srt Ss.key Ss.lt Z) (hm : St.Sm Ss.key (soFar a b 2) Z) : Z = ordS a b := by
  rw [soFar_2] at hl hm
  unfold ordS
  rcases inS_cases a 0 with h | ⟨s, h, l, k, e, sl⟩ <;> rcases inS_cases b 1 with h' | ⟨t, h', l', k', e', sl'⟩ <;> rw [h, h'] at hl hm ⊢
  · exact List.eq_nil_of_length_eq_zero (by simpa using hl)
  · match Z, hl with
    | [z], _ =>
      have := (hm.mem z).2 (by simp)
      have e : z = t := by simpa using this
      rw [e]; rfl
  · match Z, hl with
    | [z], _ =>
      have := (hm.mem z).2 (by simp)
      have e : z = s := by simpa using this
      rw [e]; rfl
  · match Z, hl with
    | [z, y], _ =>
      have h1 := (hm.mem z).2 (by simp)
      have h2 := (hm.mem y).2 (by simp)
      have h3 := (hm.mem s).1 (by simp)
      have h4 := (hm.mem t).1 (by simp)
      have hst : s ≠ t := fun e => by rw [e, sl'] at sl; cases sl
      have hgst : s.G ≠ t.G := fun e => by unfold slotS at sl sl'; rw [e, sl'] at sl; cases sl
      have hzy : Ss.lt (Ss.key y) (Ss.key z) = false := by
        have := hs
        unfold St.Srt at this
        simpa using this
      have hle : y.G ≤ z.G := by
        have := of_decide_eq_false hzy
        unfold Ss.key at this
        omega
      have h1 : z = s ∨ z = t := by simpa using h1
      have h2 : y = s ∨ y = t := by simpa using h2
      have h3 : s = z ∨ s = y := by simpa using h3
      have h4 : t = z ∨ t = y := by simpa using h4
      rcases h1 with rfl | rfl
      · have e : y = t := by
          rcases h2 with rfl | e
          · rcases h4 with e | e <;> exact e.symm
          · exact e
        subst e
        exact (if_neg (by omega)).symm
      · have e : y = s := by
          rcases h2 with e | rfl
          · exact e
          · rcases h3 with e | e <;> exact e.symm
        subst e
        exact (if_pos (by omega)).symm

set_option maxRecDepth 100000 in
set_option maxHeartbeats 4000000 in
theorem makeOrder_at (a b : ByteArray) (ha : a.size ≤ 140737488351232) (hb : b.size ≤ 140737488351232) {wb w : World} {g : Nat} (hg : wb.heap.size ≤ g) (hB : Below wb.heap.size wb w) (hr : PrAt w g a b (.slice none 0 0)) :
    Calls Tryz.prog 100 #[.pointer (some ⟨g, 0, none⟩)] w fun e w' => e = .returned (.tuple #[]) ∧ OncHeld w' g ∧ Below wb.heap.size wb w' ∧ ∃ A n c, PrAt w' g a b (.slice A n c) ∧ n = (ordS a b).length ∧ n ≤ c ∧ (ordS a b = [] → Value.slice A n c = .slice none 0 0) ∧ ((A = none ∧ ordS a b = []) ∨ ∃ q, A = some ⟨q, 0, none⟩ ∧ wb.heap.size ≤ q ∧ q ≠ g ∧ q < w'.heap.size ∧ Arr Ss.enc 35 w' q (ordS a b)) := by
  have HG := Lib.hid hg
  have H0 := Lib.hid (show Mo wb w g a b (soFar a b 0) from ⟨hg, _, hr, Mk.nil hB, fun _ => rfl⟩)
  have c0 := hr.c0
  have c1 := hr.c1
  clear hr hB hg
  go_enter Tryz.func100, Tryz.ntmps100
  go_wp2_with fail
  clear c0 c1
  go_loopw [10] (fun u wr => ∃ i : Nat, i ≤ 2 ∧ u = .int .i64 i ∧ Hid (Mo wb wr g a b (soFar a b i))) (fun u _ => 2 - (intOf u).toNat)
  case atStart => exact ⟨0, by omega, rfl, H0.out⟩
  case round =>
    clear H0
    obtain ⟨i, hi, rfl, hmo⟩ := hrel
    obtain ⟨_, v, hrv, hmv, hnv⟩ := Hid.out hmo
    have HNV := Lib.hid hnv
    have HRV := Lib.hid hrv
    have HMV := Lib.hid hmv
    clear hmo hrv hmv hnv
    rcases (show i = 0 ∨ i = 1 ∨ i = 2 by omega) with rfl | rfl | rfl
    · skip
      have HLV0 := Lib.hid (fun q => HMV.out.1.lt q)
      have hix := idx2_0 a b
      by_cases hd : IsS a
      · obtain ⟨e1, e2⟩ := de_is hd
        have HC := Lib.hid (fun w => decode_su a ha w)
        rw [enc_tk, e1, e2] at HC
        have HSL := Lib.hid (fun w => slot_any (tkS a) w)
        have hv := enc_tk a
        rw [e1] at hv
        rw [hv] at HSL
        have HIN := Lib.hid (fun h : slotS (tkS a) = 0 => inS_yes hd h)
        have HIX := Lib.hid (fun h : ¬ slotS (tkS a) = 0 => inS_no (d := a) (i := 0) (fun h' => h h'.2))
        clear e1 e2 hv hd
        obtain ⟨s, hs⟩ : ∃ s, tkS a = s := ⟨_, rfl⟩
        rw [hs] at HC HSL HIN HIX
        clear hs
        have HCI := Lib.hid (infoSe s)
        have HCZ := Lib.hid (encS_sz s)
        have HCO := Lib.hid (all_oneCell_toArray (Ss.enc_one s))
        have hC : (Ss.enc s).toArray = (Ss.enc s).toArray := rfl
        go_wp2_with fail
        refine (HC.out _).mono ?_
        rintro e w1 ⟨rfl, hb⟩
        have HR1 := Lib.hid (HRV.out.below hb)
        have HM1 := Lib.hid (HMV.out.go hb)
        have HLV := Lib.hid (fun q (hq : v.ownBlock = some q) (e : q = w1.heap.size) => by have h1 := (HM1.out.1.lt q hq).2; omega : ∀ q, v.ownBlock = some q → q = w1.heap.size → False)
        clear hb HRV HMV HC HLV0
        go_wp2_with (first
          | (refine wpList_fresh rfl 44 (.tmp 4) (.tmp 17) rfl (Ss.enc s).toArray zS 44 rfl rfl HCI.out HCZ.out HCO.out ?_; intro w2 hb hrow hsz; have HR2 := Lib.hid (HR1.out.below hb); have HM2 := Lib.hid (HM1.out.go hb); have HQ2 := Lib.hid hrow; clear hb hrow hsz HR1 HM1)
          | (refine wpList_load_row_g 44 (.tmp 4) rfl (by rfl) w1.heap.size rfl 44 (Ss.enc s).toArray (0, 0) _ HQ2.out Tryz.underlying44 rfl HCI.out ?_))
        refine (HSL.out _).mono ?_
        rintro e w3 ⟨rfl, hb⟩
        have HR3 := Lib.hid (HR2.out.below hb)
        have HM3 := Lib.hid (HM2.out.go hb)
        have HQ3 := Lib.hid ((hb.block _ (row_lt HQ2.out)).trans HQ2.out)
        clear hb HR2 HM2 HQ2 HSL
        by_cases hsl : slotS s = 0
        · have h1 : (((slotS s : Nat) : Int) == 0) = true := by rw [hsl]; rfl
          have HNX := Lib.hid (show soFar a b (0 + 1) = soFar a b 0 ++ [s] by rw [soFar_next a b 0 (by omega)]; exact congrArg _ (HIN.out hsl))
          clear HIN HIX hsl
          go_wp2_with fail
          refine wp_region_T (fun w' : World => w'.cell? ⟨g, 5, none⟩ = some v ∧ w'.heap[w1.heap.size]? = some (.cells (Ss.enc s).toArray 44 (0, 0))) 8 (by kernel_rfl) (by kernel_rfl) ?_
          generalize hw5 : w3.drew = w5
          have HR5 := Lib.hid (show PrAt w5 g a b v by rw [← hw5]; exact HR3.out)
          have HQ5 := Lib.hid (show w5.heap[w1.heap.size]? = some (.cells (Ss.enc s).toArray 44 (0, 0)) by rw [← hw5]; exact HQ3.out)
          have HM5 := Lib.hid (show MkS wb w5 v (soFar a b 0) by rw [← hw5]; exact HM3.out.go (Below.refl _ _).drew)
          clear hw5 HR3 HQ3 HM3
          have hS := (⟨HR5.out.c5, HQ5.out⟩ : w5.cell? ⟨g, 5, none⟩ = some v ∧ w5.heap[w1.heap.size]? = some (.cells (Ss.enc s).toArray 44 (0, 0)))
          refine take_T 0 27 (.pointer (some ⟨g, 0, none⟩)) rfl (by rfl) (by kernel_rfl) (by decide) (by kernel_rfl) (by kernel_rfl) (by kernel_rfl) (fun _ _ _ h => h) (Or.inl ⟨by rfl, fun w' hSw => by obtain ⟨s0, s1⟩ := hSw; go_simp⟩) hS ?_
          simp only [List.setIfInBounds_toArray, List.set_cons_zero, List.set_cons_succ]
          refine take_T 1 28 (.pointer (some ⟨g, 0, none⟩)) rfl (by rfl) (by kernel_rfl) (by decide) (by kernel_rfl) (by kernel_rfl) (by kernel_rfl) (fun _ _ _ h => h) (Or.inl ⟨by rfl, fun w' hSw => by obtain ⟨s0, s1⟩ := hSw; go_simp⟩) hS ?_
          simp only [List.setIfInBounds_toArray, List.set_cons_zero, List.set_cons_succ]
          refine take_T 2 29 (.pointer (some ⟨g, 0, none⟩)) rfl (by rfl) (by kernel_rfl) (by decide) (by kernel_rfl) (by kernel_rfl) (by kernel_rfl) (fun _ _ _ h => h) (Or.inl ⟨by rfl, fun w' hSw => by obtain ⟨s0, s1⟩ := hSw; go_simp⟩) hS ?_
          simp only [List.setIfInBounds_toArray, List.set_cons_zero, List.set_cons_succ]
          refine take_T 3 30 (.pointer (some ⟨g, 5, none⟩)) rfl (by rfl) (by kernel_rfl) (by decide) (by kernel_rfl) (by kernel_rfl) (by kernel_rfl) (fun _ _ _ h => h) (Or.inl ⟨by rfl, fun w' hSw => by obtain ⟨s0, s1⟩ := hSw; go_simp⟩) hS ?_
          simp only [List.setIfInBounds_toArray, List.set_cons_zero, List.set_cons_succ]
          refine take_T 4 31 (v) rfl (by rfl) (by kernel_rfl) (by decide) (by kernel_rfl) (by kernel_rfl) (by kernel_rfl) (fun _ _ _ h => h) (Or.inl ⟨by rfl, fun w' hSw => by obtain ⟨s0, s1⟩ := hSw; go_simp⟩) hS ?_
          simp only [List.setIfInBounds_toArray, List.set_cons_zero, List.set_cons_succ]
          refine take_T 5 32 (.agg (Ss.enc s).toArray) rfl (by rfl) (by kernel_rfl) (by decide) (by kernel_rfl) (by kernel_rfl) (by kernel_rfl) (fun _ _ _ h => h) (Or.inl ⟨by rfl, fun w' hSw => by obtain ⟨s0, s1⟩ := hSw; exact row_run' 44 rfl w1.heap.size rfl _ _ (0, 0) _ s1 Tryz.underlying44 rfl (infoSe s)⟩) hS ?_
          simp only [List.setIfInBounds_toArray, List.set_cons_zero, List.set_cons_succ]
          refine only_T 6 rfl (by kernel_rfl) (by decide) (by rfl) (fun K hK => ?_)
          refine op_oneS (.tmp 32) s rfl rfl ?_
          have hal : Below w5.heap.size w5 (w5.alloc (.cells (Ss.enc s).toArray 44)) := (Below.refl _ _).alloc (Nat.le_refl _) _
          have HR6 := Lib.hid (HR5.out.below hal)
          have HQ6 := Lib.hid ((hal.block w1.heap.size (row_lt HQ5.out)).trans HQ5.out)
          have HN6 := Lib.hid (heap_alloc_new w5 (.cells (Ss.enc s).toArray 44))
          have HM6 := Lib.hid (HM5.out.go hal)
          have hS2 := (⟨HR6.out.c5, HQ6.out⟩ : (w5.alloc (.cells (Ss.enc s).toArray 44)).cell? ⟨g, 5, none⟩ = some v ∧ (w5.alloc (.cells (Ss.enc s).toArray 44)).heap[w1.heap.size]? = some (.cells (Ss.enc s).toArray 44 (0, 0)))
          clear hal
          refine hK.out _ _ hS2 ?_
          clear hK K
          try simp only [Act.put, List.setIfInBounds_toArray, List.set_cons_zero, List.set_cons_succ]
          clear hS
          have hS := hS2
          clear hS2
          refine only_T 7 rfl (by kernel_rfl) (by decide) (by rfl) (fun K hK => ?_)
          refine op_catS HM6.out s w5.heap.size 1 HN6.out (by have := soFar_few a b 0; omega) _ _ rfl rfl rfl ?_
          intro v6 w6 hM6 hG6 hat
          obtain ⟨A6, n6, c6, rfl⟩ : ∃ A n c, v6 = .slice A n c := by
            obtain ⟨A, c, h, _⟩ := hM6.ls Ss.enc_len
            exact ⟨A, _, c, h⟩
          have HR7 : PrAt w6 g a b v := (hG6.block g HR6.out.lt (fun e => HM6.out.off HR6.out (by decide) e.symm)).trans HR6.out
          have HQ7 : w6.heap[w1.heap.size]? = some (.cells (Ss.enc s).toArray 44 (0, 0)) := (hG6.block w1.heap.size (row_lt HQ6.out) (fun e => HLV.out _ e.symm rfl)).trans HQ6.out
          have HR7K := Lib.hid HR7
          have HM7K := Lib.hid hM6
          have hS2 := (⟨HR7.c5, HQ7⟩ : w6.cell? ⟨g, 5, none⟩ = some v ∧ w6.heap[w1.heap.size]? = some (.cells (Ss.enc s).toArray 44 (0, 0)))
          have c5 := HR7.c5
          have f5 := HR7.fr 5
          clear hM6 hG6 hat HR6 HQ6 HN6 HM6 HM5 HR5 HQ5 HR7 HQ7 hS
          refine hK.out _ _ hS2 ?_
          clear hK K
          try simp only [Act.put, List.setIfInBounds_toArray, List.set_cons_zero, List.set_cons_succ]
          refine done_T (by kernel_rfl) ?_
          simp only [List.drop_succ_cons, List.drop_zero]
          clear hS2
          go_wp2_with fail
          have HMO := Lib.hid (Mo.more HG.out HR7K.out HM7K.out (by simp))
          rw [← HNX.out] at HMO
          exact ⟨⟨0 + 1, by omega, by go_num, HMO.out⟩, by simp [intOf]⟩
        · have h1 : (((slotS s : Nat) : Int) == 0) = false := by rw [beq_eq_false_iff_ne]; omega
          have HNX := Lib.hid (show soFar a b (0 + 1) = soFar a b 0 by rw [soFar_next a b 0 (by omega), show inS (dat a b 0) 0 = [] from HIX.out hsl, List.append_nil])
          have HMO := Lib.hid (show Mo wb w3 g a b (soFar a b (0 + 1)) by rw [HNX.out]; exact ⟨HG.out, v, HR3.out, HM3.out, HNV.out⟩)
          clear HIN HIX hsl HR3 HM3 HQ3
          go_wp2
          exact ⟨⟨0 + 1, by omega, by go_num, HMO.out⟩, by simp [intOf]⟩
      · have e2 := de_isn hd
        have HC := Lib.hid (fun w => decode_su a ha w)
        rw [enc_tk, e2] at HC
        have HNX := Lib.hid (show soFar a b (0 + 1) = soFar a b 0 by rw [soFar_next a b 0 (by omega), show inS (dat a b 0) 0 = [] from inS_no (fun h => hd h.1), List.append_nil])
        clear e2 hd
        obtain ⟨s, hs⟩ : ∃ s, deV a = s := ⟨_, rfl⟩
        rw [hs] at HC
        clear hs
        have HCI := Lib.hid (infoSe s)
        have HCZ := Lib.hid (encS_sz s)
        have HCO := Lib.hid (all_oneCell_toArray (Ss.enc_one s))
        go_wp2_with fail
        refine (HC.out _).mono ?_
        rintro e w1 ⟨rfl, hb⟩
        have HR1 := Lib.hid (HRV.out.below hb)
        have HM1 := Lib.hid (HMV.out.go hb)
        clear hb HRV HMV HC
        go_wp2_with (first
          | (refine wpList_fresh rfl 44 (.tmp 4) (.tmp 17) rfl (Ss.enc s).toArray zS 44 rfl rfl HCI.out HCZ.out HCO.out ?_; intro w2 hb hrow hsz; have HMO := Lib.hid (show Mo wb w2 g a b (soFar a b (0 + 1)) by rw [HNX.out]; exact ⟨HG.out, v, HR1.out.below hb, HM1.out.go hb, HNV.out⟩); clear hb hrow hsz HR1 HM1))
        exact ⟨⟨0 + 1, by omega, by go_num, HMO.out⟩, by simp [intOf]⟩
    · skip
      have HLV0 := Lib.hid (fun q => HMV.out.1.lt q)
      have hix := idx2_1 a b
      by_cases hd : IsS b
      · obtain ⟨e1, e2⟩ := de_is hd
        have HC := Lib.hid (fun w => decode_su b hb w)
        rw [enc_tk, e1, e2] at HC
        have HSL := Lib.hid (fun w => slot_any (tkS b) w)
        have hv := enc_tk b
        rw [e1] at hv
        rw [hv] at HSL
        have HIN := Lib.hid (fun h : slotS (tkS b) = 1 => inS_yes hd h)
        have HIX := Lib.hid (fun h : ¬ slotS (tkS b) = 1 => inS_no (d := b) (i := 1) (fun h' => h h'.2))
        clear e1 e2 hv hd
        obtain ⟨s, hs⟩ : ∃ s, tkS b = s := ⟨_, rfl⟩
        rw [hs] at HC HSL HIN HIX
        clear hs
        have HCI := Lib.hid (infoSe s)
        have HCZ := Lib.hid (encS_sz s)
        have HCO := Lib.hid (all_oneCell_toArray (Ss.enc_one s))
        have hC : (Ss.enc s).toArray = (Ss.enc s).toArray := rfl
        go_wp2_with fail
        refine (HC.out _).mono ?_
        rintro e w1 ⟨rfl, hb⟩
        have HR1 := Lib.hid (HRV.out.below hb)
        have HM1 := Lib.hid (HMV.out.go hb)
        have HLV := Lib.hid (fun q (hq : v.ownBlock = some q) (e : q = w1.heap.size) => by have h1 := (HM1.out.1.lt q hq).2; omega : ∀ q, v.ownBlock = some q → q = w1.heap.size → False)
        clear hb HRV HMV HC HLV0
        go_wp2_with (first
          | (refine wpList_fresh rfl 44 (.tmp 4) (.tmp 17) rfl (Ss.enc s).toArray zS 44 rfl rfl HCI.out HCZ.out HCO.out ?_; intro w2 hb hrow hsz; have HR2 := Lib.hid (HR1.out.below hb); have HM2 := Lib.hid (HM1.out.go hb); have HQ2 := Lib.hid hrow; clear hb hrow hsz HR1 HM1)
          | (refine wpList_load_row_g 44 (.tmp 4) rfl (by rfl) w1.heap.size rfl 44 (Ss.enc s).toArray (0, 0) _ HQ2.out Tryz.underlying44 rfl HCI.out ?_))
        refine (HSL.out _).mono ?_
        rintro e w3 ⟨rfl, hb⟩
        have HR3 := Lib.hid (HR2.out.below hb)
        have HM3 := Lib.hid (HM2.out.go hb)
        have HQ3 := Lib.hid ((hb.block _ (row_lt HQ2.out)).trans HQ2.out)
        clear hb HR2 HM2 HQ2 HSL
        by_cases hsl : slotS s = 1
        · have h1 : (((slotS s : Nat) : Int) == 1) = true := by rw [hsl]; rfl
          have HNX := Lib.hid (show soFar a b (1 + 1) = soFar a b 1 ++ [s] by rw [soFar_next a b 1 (by omega)]; exact congrArg _ (HIN.out hsl))
          clear HIN HIX hsl
          go_wp2_with fail
          refine wp_region_T (fun w' : World => w'.cell? ⟨g, 5, none⟩ = some v ∧ w'.heap[w1.heap.size]? = some (.cells (Ss.enc s).toArray 44 (0, 0))) 8 (by kernel_rfl) (by kernel_rfl) ?_
          generalize hw5 : w3.drew = w5
          have HR5 := Lib.hid (show PrAt w5 g a b v by rw [← hw5]; exact HR3.out)
          have HQ5 := Lib.hid (show w5.heap[w1.heap.size]? = some (.cells (Ss.enc s).toArray 44 (0, 0)) by rw [← hw5]; exact HQ3.out)
          have HM5 := Lib.hid (show MkS wb w5 v (soFar a b 1) by rw [← hw5]; exact HM3.out.go (Below.refl _ _).drew)
          clear hw5 HR3 HQ3 HM3
          have hS := (⟨HR5.out.c5, HQ5.out⟩ : w5.cell? ⟨g, 5, none⟩ = some v ∧ w5.heap[w1.heap.size]? = some (.cells (Ss.enc s).toArray 44 (0, 0)))
          refine take_T 0 27 (.pointer (some ⟨g, 0, none⟩)) rfl (by rfl) (by kernel_rfl) (by decide) (by kernel_rfl) (by kernel_rfl) (by kernel_rfl) (fun _ _ _ h => h) (Or.inl ⟨by rfl, fun w' hSw => by obtain ⟨s0, s1⟩ := hSw; go_simp⟩) hS ?_
          simp only [List.setIfInBounds_toArray, List.set_cons_zero, List.set_cons_succ]
          refine take_T 1 28 (.pointer (some ⟨g, 0, none⟩)) rfl (by rfl) (by kernel_rfl) (by decide) (by kernel_rfl) (by kernel_rfl) (by kernel_rfl) (fun _ _ _ h => h) (Or.inl ⟨by rfl, fun w' hSw => by obtain ⟨s0, s1⟩ := hSw; go_simp⟩) hS ?_
          simp only [List.setIfInBounds_toArray, List.set_cons_zero, List.set_cons_succ]
          refine take_T 2 29 (.pointer (some ⟨g, 0, none⟩)) rfl (by rfl) (by kernel_rfl) (by decide) (by kernel_rfl) (by kernel_rfl) (by kernel_rfl) (fun _ _ _ h => h) (Or.inl ⟨by rfl, fun w' hSw => by obtain ⟨s0, s1⟩ := hSw; go_simp⟩) hS ?_
          simp only [List.setIfInBounds_toArray, List.set_cons_zero, List.set_cons_succ]
          refine take_T 3 30 (.pointer (some ⟨g, 5, none⟩)) rfl (by rfl) (by kernel_rfl) (by decide) (by kernel_rfl) (by kernel_rfl) (by kernel_rfl) (fun _ _ _ h => h) (Or.inl ⟨by rfl, fun w' hSw => by obtain ⟨s0, s1⟩ := hSw; go_simp⟩) hS ?_
          simp only [List.setIfInBounds_toArray, List.set_cons_zero, List.set_cons_succ]
          refine take_T 4 31 (v) rfl (by rfl) (by kernel_rfl) (by decide) (by kernel_rfl) (by kernel_rfl) (by kernel_rfl) (fun _ _ _ h => h) (Or.inl ⟨by rfl, fun w' hSw => by obtain ⟨s0, s1⟩ := hSw; go_simp⟩) hS ?_
          simp only [List.setIfInBounds_toArray, List.set_cons_zero, List.set_cons_succ]
          refine take_T 5 32 (.agg (Ss.enc s).toArray) rfl (by rfl) (by kernel_rfl) (by decide) (by kernel_rfl) (by kernel_rfl) (by kernel_rfl) (fun _ _ _ h => h) (Or.inl ⟨by rfl, fun w' hSw => by obtain ⟨s0, s1⟩ := hSw; exact row_run' 44 rfl w1.heap.size rfl _ _ (0, 0) _ s1 Tryz.underlying44 rfl (infoSe s)⟩) hS ?_
          simp only [List.setIfInBounds_toArray, List.set_cons_zero, List.set_cons_succ]
          refine only_T 6 rfl (by kernel_rfl) (by decide) (by rfl) (fun K hK => ?_)
          refine op_oneS (.tmp 32) s rfl rfl ?_
          have hal : Below w5.heap.size w5 (w5.alloc (.cells (Ss.enc s).toArray 44)) := (Below.refl _ _).alloc (Nat.le_refl _) _
          have HR6 := Lib.hid (HR5.out.below hal)
          have HQ6 := Lib.hid ((hal.block w1.heap.size (row_lt HQ5.out)).trans HQ5.out)
          have HN6 := Lib.hid (heap_alloc_new w5 (.cells (Ss.enc s).toArray 44))
          have HM6 := Lib.hid (HM5.out.go hal)
          have hS2 := (⟨HR6.out.c5, HQ6.out⟩ : (w5.alloc (.cells (Ss.enc s).toArray 44)).cell? ⟨g, 5, none⟩ = some v ∧ (w5.alloc (.cells (Ss.enc s).toArray 44)).heap[w1.heap.size]? = some (.cells (Ss.enc s).toArray 44 (0, 0)))
          clear hal
          refine hK.out _ _ hS2 ?_
          clear hK K
          try simp only [Act.put, List.setIfInBounds_toArray, List.set_cons_zero, List.set_cons_succ]
          clear hS
          have hS := hS2
          clear hS2
          refine only_T 7 rfl (by kernel_rfl) (by decide) (by rfl) (fun K hK => ?_)
          refine op_catS HM6.out s w5.heap.size 1 HN6.out (by have := soFar_few a b 1; omega) _ _ rfl rfl rfl ?_
          intro v6 w6 hM6 hG6 hat
          obtain ⟨A6, n6, c6, rfl⟩ : ∃ A n c, v6 = .slice A n c := by
            obtain ⟨A, c, h, _⟩ := hM6.ls Ss.enc_len
            exact ⟨A, _, c, h⟩
          have HR7 : PrAt w6 g a b v := (hG6.block g HR6.out.lt (fun e => HM6.out.off HR6.out (by decide) e.symm)).trans HR6.out
          have HQ7 : w6.heap[w1.heap.size]? = some (.cells (Ss.enc s).toArray 44 (0, 0)) := (hG6.block w1.heap.size (row_lt HQ6.out) (fun e => HLV.out _ e.symm rfl)).trans HQ6.out
          have HR7K := Lib.hid HR7
          have HM7K := Lib.hid hM6
          have hS2 := (⟨HR7.c5, HQ7⟩ : w6.cell? ⟨g, 5, none⟩ = some v ∧ w6.heap[w1.heap.size]? = some (.cells (Ss.enc s).toArray 44 (0, 0)))
          have c5 := HR7.c5
          have f5 := HR7.fr 5
          clear hM6 hG6 hat HR6 HQ6 HN6 HM6 HM5 HR5 HQ5 HR7 HQ7 hS
          refine hK.out _ _ hS2 ?_
          clear hK K
          try simp only [Act.put, List.setIfInBounds_toArray, List.set_cons_zero, List.set_cons_succ]
          refine done_T (by kernel_rfl) ?_
          simp only [List.drop_succ_cons, List.drop_zero]
          clear hS2
          go_wp2_with fail
          have HMO := Lib.hid (Mo.more HG.out HR7K.out HM7K.out (by simp))
          rw [← HNX.out] at HMO
          exact ⟨⟨1 + 1, by omega, by go_num, HMO.out⟩, by simp [intOf]⟩
        · have h1 : (((slotS s : Nat) : Int) == 1) = false := by rw [beq_eq_false_iff_ne]; omega
          have HNX := Lib.hid (show soFar a b (1 + 1) = soFar a b 1 by rw [soFar_next a b 1 (by omega), show inS (dat a b 1) 1 = [] from HIX.out hsl, List.append_nil])
          have HMO := Lib.hid (show Mo wb w3 g a b (soFar a b (1 + 1)) by rw [HNX.out]; exact ⟨HG.out, v, HR3.out, HM3.out, HNV.out⟩)
          clear HIN HIX hsl HR3 HM3 HQ3
          go_wp2
          exact ⟨⟨1 + 1, by omega, by go_num, HMO.out⟩, by simp [intOf]⟩
      · have e2 := de_isn hd
        have HC := Lib.hid (fun w => decode_su b hb w)
        rw [enc_tk, e2] at HC
        have HNX := Lib.hid (show soFar a b (1 + 1) = soFar a b 1 by rw [soFar_next a b 1 (by omega), show inS (dat a b 1) 1 = [] from inS_no (fun h => hd h.1), List.append_nil])
        clear e2 hd
        obtain ⟨s, hs⟩ : ∃ s, deV b = s := ⟨_, rfl⟩
        rw [hs] at HC
        clear hs
        have HCI := Lib.hid (infoSe s)
        have HCZ := Lib.hid (encS_sz s)
        have HCO := Lib.hid (all_oneCell_toArray (Ss.enc_one s))
        go_wp2_with fail
        refine (HC.out _).mono ?_
        rintro e w1 ⟨rfl, hb⟩
        have HR1 := Lib.hid (HRV.out.below hb)
        have HM1 := Lib.hid (HMV.out.go hb)
        clear hb HRV HMV HC
        go_wp2_with (first
          | (refine wpList_fresh rfl 44 (.tmp 4) (.tmp 17) rfl (Ss.enc s).toArray zS 44 rfl rfl HCI.out HCZ.out HCO.out ?_; intro w2 hb hrow hsz; have HMO := Lib.hid (show Mo wb w2 g a b (soFar a b (1 + 1)) by rw [HNX.out]; exact ⟨HG.out, v, HR1.out.below hb, HM1.out.go hb, HNV.out⟩); clear hb hrow hsz HR1 HM1))
        exact ⟨⟨1 + 1, by omega, by go_num, HMO.out⟩, by simp [intOf]⟩
    · have d : decide (((2 : Nat) : Int) < 2) = false := rfl
      have HFIN : ∀ (A : Option Addr) (n c : Nat), v = .slice A n c → True := fun _ _ _ _ => trivial
      have HS2 := Lib.hid (fun (Z : List Su) (hl : Z.length = (soFar a b 2).length) (hs : St.Srt Ss.key Ss.lt Z) (hm : St.Sm Ss.key (soFar a b 2) Z) => sorted_two hl hs hm)
      have HFW := Lib.hid (soFar_few a b 2)
      rcases HMV.out.arr Ss.enc_len with ⟨rfl, hnil⟩ | ⟨q, c, rfl, hnc, hcm, hq0, hqs, har⟩
      · have HO := Lib.hid (show ordS a b = [] by rw [← sorted_two (Z := []) (by rw [hnil]) List.Pairwise.nil (by rw [hnil]; exact St.Sm.refl _)])
        have HST := Lib.hid (Ss.sort_none none 0 wr)
        unfold Ss.CMP at HST
        have c5 := HRV.out.c5
        have HB := Lib.hid HMV.out.2
        clear HMV hnil
        go_wp2_with fail
        refine HST.out.mono ?_
        rintro e w1 ⟨rfl, rfl⟩
        go_wp2
        first | go_end0 | (simp only [Exit.inBlock, Exit.then]; refine bodyPost_ret (results_none rfl _ _ _) rfl ?_) | refine bodyPost_ret (results_none rfl _ _ _) rfl ?_
        exact ⟨rfl, HRV.out.held, HB.out, none, 0, 0, HRV.out, by rw [HO.out]; rfl, Nat.le_refl _, fun _ => rfl, .inl ⟨rfl, HO.out⟩⟩
      · have hqg : q ≠ g := fun e => HMV.out.off HRV.out (by decide) (by rw [← e]; rfl)
        have HB := Lib.hid HMV.out.2
        have c5 := HRV.out.c5
        have HAR := Lib.hid har
        have HQG := Lib.hid hqg
        have HQ0 := Lib.hid hq0
        have HQS := Lib.hid hqs
        have HNC := Lib.hid hnc
        clear HMV har hqg hq0 hqs hnc hcm
        by_cases hz : (soFar a b 2).length = 0
        · exact absurd (HNV.out (List.eq_nil_of_length_eq_zero hz)) (by intro h; cases h)
        · have HST := Lib.hid (Ss.sort_some (soFar a b 2) (Nat.pos_of_ne_zero hz) HFW.out q c HNC.out wr HAR.out)
          unfold Ss.CMP at HST
          obtain ⟨n, hn⟩ : ∃ n, (soFar a b 2).length = n := ⟨_, rfl⟩
          rw [hn] at HST HRV c5 HNC
          have HNN := Lib.hid hn
          have HNZ := Lib.hid (show ¬ n = 0 by rw [← hn]; exact hz)
          clear hz HFW hn
          go_wp2_with fail
          refine HST.out.mono ?_
          rintro e w1 ⟨rfl, Z, h1, h2, h3, h4, h5⟩
          have HZ := Lib.hid (sorted_two (by rw [h2, HNN.out]) h3 h4)
          have HAZ := Lib.hid h1
          have HRW := Lib.hid (show PrAt w1 g a b _ from (h5.block g HRV.out.lt (fun e => HQG.out (Option.some.inj e).symm)).trans HRV.out)
          have HBW := Lib.hid (HB.out.trans (below_of_grown h5 HB.out.size HQ0.out))
          have HSZ := Lib.hid (Nat.lt_of_lt_of_le HQS.out h5.size)
          have HZN := Lib.hid h2
          clear h1 h2 h3 h4 h5 HRV HB HQS HST
          go_wp2
          first | go_end0 | (simp only [Exit.inBlock, Exit.then]; refine bodyPost_ret (results_none rfl _ _ _) rfl ?_) | refine bodyPost_ret (results_none rfl _ _ _) rfl ?_
          exact ⟨rfl, HRW.out.held, HBW.out, some ⟨q, 0, none⟩, n, c, HRW.out, by rw [← HZ.out, HZN.out], HNC.out, fun e => absurd (by rw [← HZN.out, HZ.out, e]; rfl : n = 0) HNZ.out, .inr ⟨q, rfl, HQ0.out, HQG.out, HSZ.out, by rw [← HZ.out]; exact HAZ.out⟩⟩
/-- a list of superblocks, where its slice says -/
def SAt (w : World) (v : Value) (L : List Su) : Prop := ∃ A n c, v = .slice A n c ∧ n = L.length ∧ n ≤ c ∧ Ls Ss.enc 35 w w.heap.size A L
theorem SAt.below {w w' : World} {v : Value} {L : List Su} (h : SAt w v L) (hb : Below w.heap.size w w') : SAt w' v L := by
  obtain ⟨A, n, c, h1, h2, h3, h4⟩ := h
  exact ⟨A, n, c, h1, h2, h3, (h4.below hb).more hb.size⟩
def onC (a b : ByteArray) : Array Value := #[.string a, .string b, .int .u32 0, .int .i32 0, .int .u32 0, .slice none 0 0]
set_option maxRecDepth 100000 in
set_option maxHeartbeats 2000000 in
theorem newest_at (a b : ByteArray) (ha : a.size ≤ 140737488351232) (hb : b.size ≤ 140737488351232) {wb w : World} {g : Nat} (hg : wb.heap.size ≤ g) (hB : Below wb.heap.size wb w) (hr : w.heap[g]? = some (.cells (onC a b) 113 (0, 0))) :
    Calls Tryz.prog 63 #[.pointer (some ⟨g, 0, none⟩)] w fun e w' => ∃ v, e = .returned v ∧ (ordS a b = [] → v = .slice none 0 0) ∧ SAt w' v (ordS a b) ∧ Below wb.heap.size wb w' := by
  have c2 : w.cell? ⟨g, 2, none⟩ = some (.int .u32 0) := cell_of_row _ _ 2 _ _ _ hr
  have c3 : w.cell? ⟨g, 3, none⟩ = some (.int .i32 0) := cell_of_row _ _ 3 _ _ _ hr
  have f3 : w.frozen? ⟨g, 3, none⟩ = false := frozen_of_row w g _ _ _ hr
  have hr1 : PrAt (oncBeg w g) g a b (.slice none 0 0) := by
    unfold PrAt prC oncBeg
    unfold onC at hr
    simp [World.setCell, hr, Array.getElem?_modify]
  have hB1 : Below wb.heap.size wb (oncBeg w g) := hB.setCell (p := ⟨g, 3, none⟩) hg _
  have HD := Lib.hid (do_first g w _ c2 c3 f3 (makeOrder_at a b ha hb hg hB1 hr1))
  clear hr1 hB1 c2 c3 f3 hr hB
  go_enter Tryz.func63, Tryz.ntmps63
  go_wp2_with fail
  refine HD.out.mono ?_
  rintro e w' ⟨rfl, w1, ⟨hB, A, n, c, hP, hn, hc, hnv, hA⟩, rfl⟩
  have c5 : (oncEnd w1 g).cell? ⟨g, 5, none⟩ = some (.slice A n c) := by
    unfold oncEnd
    rw [World.cell?_setCell_other _ _ _ _ (by simp), World.cell?_setCell_other _ _ _ _ (by simp), World.cell?_drew]
    exact hP.c5
  have HB := Lib.hid (show Below wb.heap.size wb (oncEnd w1 g) from ((hB.drew).setCell (p := ⟨g, 2, none⟩) hg _).setCell (p := ⟨g, 3, none⟩) hg _)
  have HS := Lib.hid (show SAt (oncEnd w1 g) (.slice A n c) (ordS a b) by
    refine ⟨A, n, c, rfl, hn, hc, ?_⟩
    rcases hA with ⟨rfl, h0⟩ | ⟨q, rfl, _, hq, hlt, har⟩
    · rw [h0]; exact Ls.nil
    · refine Ls.of_arr (Arr.block har ?_) ?_
      · unfold oncEnd
        rw [Below.heap_setCell _ ⟨g, 3, none⟩ _ _ hq, Below.heap_setCell _ ⟨g, 2, none⟩ _ _ hq]
        rfl
      · unfold oncEnd; simpa using hlt)
  have HNV := Lib.hid hnv
  clear hB hP hn hc hA HD hnv
  generalize oncEnd w1 g = w2 at *
  go_wp2
  go_ret
  exact ⟨.slice A n c, rfl, HNV.out, HS.out, HB.out⟩
theorem order_su (a b : ByteArray) (ha : a.size ≤ 140737488351232) (hb : b.size ≤ 140737488351232) (w : World) :
    Calls Tryz.prog 35 #[.string a, .string b] w fun e w' => ∃ v, e = .returned v ∧ (ordS a b = [] → v = .slice none 0 0) ∧ SAt w' v (ordS a b) ∧ Below w.heap.size w w' := by
  have HN := Lib.hid (newest_at a b ha hb (wb := w) (w := w.alloc (.cells (onC a b) 113)) (g := w.heap.size) (Nat.le_refl _) ((Below.refl _ _).alloc (Nat.le_refl _) _) (heap_alloc_new w _))
  unfold onC at HN
  go_enter Tryz.func35, Tryz.ntmps35
  go_wp2_with fail
  refine HN.out.mono ?_
  rintro e w1 ⟨v, rfl, hnv, hv, hb⟩
  obtain ⟨A, n, c, rfl⟩ : ∃ A n c, v = .slice A n c := by
    obtain ⟨A, n, c, h, _⟩ := hv
    exact ⟨A, n, c, h⟩
  have HV := Lib.hid hv
  have HB := Lib.hid hb
  have HNV := Lib.hid hnv
  clear hv hb HN hnv
  go_wp2
  go_ret
  exact ⟨.slice A n c, rfl, HNV.out, HV.out, HB.out⟩
end Go.Proofs.YtlchjohaacbkpaaGreatDoor.Sp
