/- The document's Bag: a node is taken. -/
import Derived.Test.YtnfcgifkghegjaaGreatDoorNfM
import Derived.Test.YtnfcgifkghegjaaGreatDoorNdP
namespace Go.Proofs.YtnfcgifkghegjaaGreatDoor.Nr
set_option linter.unusedVariables false
set_option linter.unusedSimpArgs false
open Go.ChangeShapes Go.WideShapes Go.ChangeAt Go.RowKit
open Nd Ar Rg
open BigFrame
open Pk (be num u8s u8s_length num_lt)
/-- what the document's take makes of bytes, and whether it is bad -/
def tbN (l : List UInt8) : Nd × Bool :=
  let p := tkNum 1 (l, false)
  let q := tkNum 1 p.2
  if p.1 = 1 then (⟨p.1, (tkMany cI q.1 q.2).1, [], []⟩, (tkMany cI q.1 q.2).2.2)
  else if p.1 = 2 then (⟨p.1, [], (tkMany cK q.1 q.2).1, []⟩, (tkMany cK q.1 q.2).2.2)
  else if p.1 = 3 then (⟨p.1, [], [], (tkMany cV q.1 q.2).1⟩, (tkMany cV q.1 q.2).2.2)
  else (⟨p.1, [], [], []⟩, q.2.2 || decide (0 < q.1))
def BtPost (w0 : World) (q : Nat) (l : List UInt8) (e : Ending) (w' : World) : Prop := ∃ cs S, e = .returned (.agg cs) ∧ BagAt w' q S (tbN l).2 ∧ Below w0.heap.size w0 w' ∧ cs.size = 4 ∧ cs.all (·.oneCell') = true ∧ ((tbN l).2 = false → NdOwn w0 w' cs (tbN l).1)
theorem run_storeVar_part {P : Program} (w : World) (g o : Nat) (t ty : TypeId) (cur cells : Array Value) (x : Value) (hg : w.heap[g]? = some (.cells cur t (0, 0))) (hx : x.cells = cells.toList.toArray) (hi : (P.info? ty).map (·.size) = some cells.size)
    (hfit : o + cells.size ≤ cur.size) (h1 : cells.all (·.oneCell') = true) :
    (storeVar ty ⟨g, o, none⟩ x).run P w = .ok () (w.setRow g (cur.toList.take o ++ cells.toList ++ cur.toList.drop (o + cells.size)).toArray) := by
  have h := run_storeCells_at P g o t cells.toList 0 cur w hg (by simpa using hfit) (fun v hv => (Array.all_eq_true_iff_forall_mem.1 h1) v (by simpa using hv))
  cases hq : P.info? ty with
  | none => simp [hq] at hi
  | some i =>
    have hs : i.size = cells.size := by simpa [hq] using hi
    simp only [Nat.add_zero, Array.length_toList] at h
    have hx' : x.cells = cells := by rw [hx]
    simp [storeVar, sizeOf, typeInfo, hq, hx', hs, h]
section
variable {P : Program} {ops : Array Oper} {rest : List Oper} {o : Oper} {a : Act} {w : World} {Q : Exit → Act → World → Prop}
/-- a store into a part of a row -/
theorem wpList_store_part (hgd : o.guard = none) (ty : TypeId) (x y : Operand) (ho : o.op = .store ty x y) (g i : Nat) (v : Value) (cells : Array Value) (hx : a.eval x = .pointer (some ⟨g, i, none⟩)) (hy : a.eval y = v)
    (t : TypeId) (cur new : Array Value) (hg : w.heap[g]? = some (.cells cur t (0, 0))) (hv : v.cells = cells.toList.toArray) (hi : (P.info? ty).map (·.size) = some cells.size)
    (hfit : i + cells.size ≤ cur.size) (h1 : cells.all (·.oneCell') = true) (hn : (cur.toList.take i ++ cells.toList ++ cur.toList.drop (i + cells.size)).toArray = new)
    (h : wpList P ops Q rest (a.put o.dst undef) (w.setRow g new)) : wpList P ops Q (o :: rest) a w :=
  wpList_plain hgd fun K hK => by
    subst hn
    unfold Oper.wp execOp
    simp only [ho, hx, hy, Instr.storeAt, Instr.sureAddr, Sem.run_bind, Sem.run_pure, Result.andThen_ok, run_storeVar_part w g i t ty cur cells v hg hv hi hfit h1]
    exact hK _ _ h
end
theorem one_all (v : Value) (h : v.oneCell' = true) : (#[v] : Array Value).all (·.oneCell') = true := by simp [h]
theorem infoN4 : (Tryz.prog.info? 27).map (·.size) = some 4 := by kernel_rfl
theorem infoS1 : (Tryz.prog.info? 9).map (·.size) = some 1 := by kernel_rfl
theorem infoU32 : (Tryz.prog.info? 39).map (·.size) = some 1 := by kernel_rfl
theorem infoU64 : (Tryz.prog.info? 57).map (·.size) = some 1 := by kernel_rfl
theorem infoVK : (Tryz.prog.info? 56).map (·.size) = some 1 := by kernel_rfl
theorem infoIs (x : It.Itm) : (Tryz.prog.info? 61).map (·.size) = some (It.enc x).toArray.size := by
  show _ = some 2
  kernel_rfl
/-- so many as were taken, or it is bad -/
def InvB {α : Type} (C : Cod α) (c : Nat) (s0 : S) (i : Nat) (D : List α) (s : S) : Prop := (s.2 = false → TkInv C c s0 i D s.1 false) ∧ (s.2 = true → (tkMany C c s0).2.2 = true)
theorem InvB.go {α : Type} {C : Cod α} {c i : Nat} {s0 s : S} {D : List α} {x : α} (h : InvB C c s0 i D s) (hs : s.2 = false) (hi : i < c) (hl : ∀ s, (C.tk s).2.1.length ≤ s.1.length) (hx : (C.tk s).2.2 = false → x = (C.tk s).1) : InvB C c s0 (i + 1) (D ++ [x]) (C.tk s).2 := by
  obtain ⟨l, b⟩ := s
  cases hs
  have h1 := h.1 rfl
  constructor
  · intro hf
    rw [hx hf]
    have e : C.tk (l, false) = ((C.tk (l, false)).1, ((C.tk (l, false)).2.1, false)) := Prod.ext rfl (Prod.ext rfl hf)
    exact h1.step hi e (hl _)
  · intro ht
    have e : C.tk (l, false) = ((C.tk (l, false)).1, ((C.tk (l, false)).2.1, true)) := Prod.ext rfl (Prod.ext rfl ht)
    rw [h1.stop hi e]
theorem num1_more {s : S} (h : 1 ≤ s.1.length) : (tkNum 1 s).2 = (s.1.drop 1, s.2) := by unfold tkNum; rw [if_pos h]
theorem far_put {w w1 : World} {q g : Nat} (h : w.grownBy w1 (some q)) (hg : w.heap.size ≤ g) (cs : Array Value) : w.grownBy (w1.setRow g cs) (some q) := far_row h hg cs
theorem elI {s : S} {X Y : ByteArray} (h1 : (tkTxt s).2.2 = false → X.data.toList = (tkTxt s).1) (h2 : (tkTxt (tkTxt s).2).2.2 = false → Y.data.toList = (tkTxt (tkTxt s).2).1) (hf : (cI.tk s).2.2 = false) : (⟨X, Y⟩ : It.Itm) = (cI.tk s).1 := by
  have f2 : (tkTxt (tkTxt s).2).2.2 = false := hf
  have f1 : (tkTxt s).2.2 = false := by
    cases h : (tkTxt s).2.2 with
    | false => rfl
    | true => rw [show (tkTxt (tkTxt s).2).2.2 = true from txt_good.stay _ h] at f2; cases f2
  show _ = (⟨bs (tkTxt s).1, bs (tkTxt (tkTxt s).2).1⟩ : It.Itm)
  rw [← h1 f1, ← h2 f2, data_bs, data_bs]
theorem back_f {s : S} {s' : S} (hst : s.2 = true → s'.2 = true) (hf : s'.2 = false) : s.2 = false := by
  cases h : s.2 with
  | false => rfl
  | true => rw [hst h] at hf; cases hf
theorem elK {s0 s1 s2 s3 : S} {X : ByteArray} {n : Nat} {l : List UInt8} (e1 : (tkTxt s0).2 = s1) (e2 : (tkNum 4 s1).2 = s2) (e3 : (tkHash s2).2 = s3)
    (h1 : s1.2 = false → X.data.toList = (tkTxt s0).1) (h2 : s2.2 = false → n = (tkNum 4 s1).1) (h3 : s3.2 = false → l = (tkHash s2).1) :
    (cK.tk s0).2 = s3 ∧ ((cK.tk s0).2.2 = false → (⟨X, n, l⟩ : Kd) = (cK.tk s0).1) := by
  obtain ⟨V1, g1⟩ : ∃ V, tkTxt s0 = (V, s1) := ⟨_, Prod.ext rfl e1⟩
  obtain ⟨V2, g2⟩ : ∃ V, tkNum 4 s1 = (V, s2) := ⟨_, Prod.ext rfl e2⟩
  obtain ⟨V3, g3⟩ : ∃ V, tkHash s2 = (V, s3) := ⟨_, Prod.ext rfl e3⟩
  have st1 : s1.2 = true → s2.2 = true := fun h => by have := (num_good 4).stay s1 h; rw [show (cNum 4).tk s1 = (V2, s2) from g2] at this; exact this
  have st2 : s2.2 = true → s3.2 = true := fun h => by have := hash_good.stay s2 h; rw [show cHash.tk s2 = (V3, s3) from g3] at this; exact this
  have hX := as_tk (A := cTxt.pair ((cNum 4).pair cHash)) (f := fun p => (⟨bs p.1, p.2.1, p.2.2⟩ : Kd)) (g := fun x => (x.k.data.toList, x.n, x.hs)) (pair_tk (A := cTxt) g1 (pair_tk (A := cNum 4) (B := cHash) g2 g3))
  have hY : cK.tk s0 = (⟨bs V1, V2, V3⟩, s3) := hX
  rw [hY]
  refine ⟨rfl, fun f3 => ?_⟩
  have f3 : s3.2 = false := f3
  have f2 := back_f st2 f3
  have f1 := back_f st1 f2
  have q1 := h1 f1
  have q2 := h2 f2
  have q3 := h3 f3
  rw [g1] at q1
  rw [g2] at q2
  rw [g3] at q3
  show _ = (⟨bs V1, V2, V3⟩ : Kd)
  rw [q2, q3, ← show X.data.toList = V1 from q1, data_bs]
theorem elV {s0 s1 s2 s3 s4 s5 s6 : S} {X Y : ByteArray} {k b r : Nat} {l : List UInt8} (e1 : (tkTxt s0).2 = s1) (e2 : (tkTxt s1).2 = s2) (e3 : (tkNum 1 s2).2 = s3) (e4 : (tkNum 8 s3).2 = s4) (e5 : (tkNum 4 s4).2 = s5) (e6 : (tkHash s5).2 = s6)
    (h1 : s1.2 = false → X.data.toList = (tkTxt s0).1) (h2 : s2.2 = false → Y.data.toList = (tkTxt s1).1) (h3 : s3.2 = false → k = (tkNum 1 s2).1) (h4 : s4.2 = false → b = (tkNum 8 s3).1) (h5 : s5.2 = false → r = (tkNum 4 s4).1) (h6 : s6.2 = false → l = (tkHash s5).1) :
    (cV.tk s0).2 = s6 ∧ ((cV.tk s0).2.2 = false → (⟨X, k, Y, b, r, l⟩ : Vo) = (cV.tk s0).1) := by
  obtain ⟨V1, g1⟩ : ∃ V, tkTxt s0 = (V, s1) := ⟨_, Prod.ext rfl e1⟩
  obtain ⟨V2, g2⟩ : ∃ V, tkTxt s1 = (V, s2) := ⟨_, Prod.ext rfl e2⟩
  obtain ⟨V3, g3⟩ : ∃ V, tkNum 1 s2 = (V, s3) := ⟨_, Prod.ext rfl e3⟩
  obtain ⟨V4, g4⟩ : ∃ V, tkNum 8 s3 = (V, s4) := ⟨_, Prod.ext rfl e4⟩
  obtain ⟨V5, g5⟩ : ∃ V, tkNum 4 s4 = (V, s5) := ⟨_, Prod.ext rfl e5⟩
  obtain ⟨V6, g6⟩ : ∃ V, tkHash s5 = (V, s6) := ⟨_, Prod.ext rfl e6⟩
  have st1 : s1.2 = true → s2.2 = true := fun h => by have := txt_good.stay s1 h; rw [show cTxt.tk s1 = (V2, s2) from g2] at this; exact this
  have st2 : s2.2 = true → s3.2 = true := fun h => by have := (num_good 1).stay s2 h; rw [show (cNum 1).tk s2 = (V3, s3) from g3] at this; exact this
  have st3 : s3.2 = true → s4.2 = true := fun h => by have := (num_good 8).stay s3 h; rw [show (cNum 8).tk s3 = (V4, s4) from g4] at this; exact this
  have st4 : s4.2 = true → s5.2 = true := fun h => by have := (num_good 4).stay s4 h; rw [show (cNum 4).tk s4 = (V5, s5) from g5] at this; exact this
  have st5 : s5.2 = true → s6.2 = true := fun h => by have := hash_good.stay s5 h; rw [show cHash.tk s5 = (V6, s6) from g6] at this; exact this
  have hX := as_tk (A := cTxt.pair (cTxt.pair ((cNum 1).pair ((cNum 8).pair ((cNum 4).pair cHash))))) (f := fun p => (⟨bs p.1, p.2.2.1, bs p.2.1, p.2.2.2.1, p.2.2.2.2.1, p.2.2.2.2.2⟩ : Vo)) (g := fun x => (x.nm.data.toList, x.fr.data.toList, x.kd, x.bn, x.rt, x.hs)) (pair_tk (A := cTxt) g1 (pair_tk (A := cTxt) g2 (pair_tk (A := cNum 1) g3 (pair_tk (A := cNum 8) g4 (pair_tk (A := cNum 4) (B := cHash) g5 g6)))))
  have hY : cV.tk s0 = (⟨bs V1, V3, bs V2, V4, V5, V6⟩, s6) := hX
  rw [hY]
  refine ⟨rfl, fun f6 => ?_⟩
  have f6 : s6.2 = false := f6
  have f5 := back_f st5 f6
  have f4 := back_f st4 f5
  have f3 := back_f st3 f4
  have f2 := back_f st2 f3
  have f1 := back_f st1 f2
  have q1 := h1 f1
  have q2 := h2 f2
  have q3 := h3 f3
  have q4 := h4 f4
  have q5 := h5 f5
  have q6 := h6 f6
  rw [g1] at q1
  rw [g2] at q2
  rw [g3] at q3
  rw [g4] at q4
  rw [g5] at q5
  rw [g6] at q6
  show _ = (⟨bs V1, V3, bs V2, V4, V5, V6⟩ : Vo)
  rw [q3, q4, q5, q6, ← show X.data.toList = V1 from q1, ← show Y.data.toList = V2 from q2, data_bs, data_bs]
abbrev Z32 : List UInt8 := List.replicate 32 0
theorem fix_Z : u8s (fix Z32) = List.replicate 32 (.int .u8 0) := by rfl
/-- where the taking of I stands: r: the result's variable, N: the node's -/
structure TbStI (w0 : World) (q r N kd : Nat) (v : Value) (D : List It.Itm) (s : S) (wr : World) : Prop where
  tk : BagR wr q s
  row : wr.heap[N]? = some (.cells #[.int .u8 kd, v, zS, zS] 27 (0, 0))
  res : wr.heap[r]? = some (.cells #[.int .u8 0, zS, zS, zS] 27 (0, 0))
  own : MkI w0 wr v D
  w0q : w0.heap.size ≤ q
  qr : q < r
  rN : r < N
section
variable {w0 wr w' : World} {q r N kd : Nat} {v : Value} {D : List It.Itm} {s s2 : S}
theorem TbStI.off (h : TbStI w0 q r N kd v D s wr) : v.ownBlock ≠ some q := by
  obtain ⟨S, h1, _⟩ := h.tk
  exact h.own.off h1 (by decide)
theorem TbStI.took (h : TbStI w0 q r N kd v D s wr) (ht : BagR w' q s2) (hg : wr.grownBy w' (some q)) : TbStI w0 q r N kd v D s2 w' :=
  ⟨ht, (hg.block N (row_lt h.row) (fun e => by have := Option.some.inj e; have := h.qr; have := h.rN; omega)).trans h.row, (hg.block _ (row_lt h.res) (fun e => by have := Option.some.inj e; have := h.qr; omega)).trans h.res, h.own.grownQ hg h.w0q h.off, h.w0q, h.qr, h.rN⟩
theorem TbStI.below (h : TbStI w0 q r N kd v D s wr) (hb : Below wr.heap.size wr w') : TbStI w0 q r N kd v D s w' :=
  ⟨h.tk.below hb, (hb.block N (row_lt h.row)).trans h.row, (hb.block _ (row_lt h.res)).trans h.res, h.own.go hb, h.w0q, h.qr, h.rN⟩
theorem TbStI.put (h : TbStI w0 q r N kd v D s wr) {v' : Value} {D' : List It.Itm} (hm : MkI w0 w' v' D') (hg : wr.grownBy w' v.ownBlock) : TbStI w0 q r N kd v' D' s (w'.setCell ⟨N, 1, none⟩ v') := by
  have hq := h.off
  have hN := h.own.off h.row (by decide)
  have hR := h.own.off h.res (by decide)
  obtain ⟨S, h1, h2, h3⟩ := h.tk
  have tq : w'.heap[q]? = _ := (hg.block q h1.lt (fun e => hq e.symm)).trans h1
  have tN := (hg.block N (row_lt h.row) (fun e => hN e.symm)).trans h.row
  have tR := (hg.block _ (row_lt h.res) (fun e => hR e.symm)).trans h.res
  have hs := grown_setCell w' ⟨N, 1, none⟩ v'
  have qr := h.qr
  have rN := h.rN
  have q0 := h.w0q
  refine ⟨⟨S, (hs.block q (row_lt tq) (fun e => by have : q = N := Option.some.inj e; omega)).trans tq, h2, h3⟩, ?_, (hs.block _ (row_lt tR) (fun e => by have : r = N := Option.some.inj e; omega)).trans tR, hm.grownQ hs (show w0.heap.size ≤ N by omega) (hm.off tN (by decide)), h.w0q, h.qr, h.rN⟩
  simp [World.setCell, tN, Array.getElem?_modify]
theorem TbStI.out (h : TbStI w0 q r N kd v D s wr) : NdOwn w0 (wr.setRow r #[.int .u8 kd, v, zS, zS]) #[.int .u8 kd, v, zS, zS] ⟨kd, D, [], []⟩ ∧ (wr.setRow r #[.int .u8 kd, v, zS, zS]).heap[r]? = some (.cells #[.int .u8 kd, v, zS, zS] 27 (0, 0)) ∧ BagR (wr.setRow r #[.int .u8 kd, v, zS, zS]) q s ∧ Below w0.heap.size w0 (wr.setRow r #[.int .u8 kd, v, zS, zS]) := by
  have hs := grown_setRow wr r #[.int .u8 kd, v, zS, zS]
  have qr := h.qr
  have q0 := h.w0q
  have hm : MkI w0 (wr.setRow r #[.int .u8 kd, v, zS, zS]) v D := h.own.grownQ hs (by omega) (h.own.off h.res (by decide))
  exact ⟨⟨_, _, _, rfl, hm, Mk.nil hm.2, Mk.nil hm.2⟩, setRow_heap' h.res, bag_far h.tk (by omega) _, hm.2⟩
end
/-- where the taking of K stands: r: the result's variable, N: the node's -/
structure TbStK (w0 : World) (q r N kd : Nat) (v : Value) (D : List Kd) (s : S) (wr : World) : Prop where
  tk : BagR wr q s
  row : wr.heap[N]? = some (.cells #[.int .u8 kd, zS, v, zS] 27 (0, 0))
  res : wr.heap[r]? = some (.cells #[.int .u8 0, zS, zS, zS] 27 (0, 0))
  own : MkK w0 wr v D
  w0q : w0.heap.size ≤ q
  qr : q < r
  rN : r < N
section
variable {w0 wr w' : World} {q r N kd : Nat} {v : Value} {D : List Kd} {s s2 : S}
theorem TbStK.off (h : TbStK w0 q r N kd v D s wr) : v.ownBlock ≠ some q := by
  obtain ⟨S, h1, _⟩ := h.tk
  exact h.own.off h1 (by decide)
theorem TbStK.took (h : TbStK w0 q r N kd v D s wr) (ht : BagR w' q s2) (hg : wr.grownBy w' (some q)) : TbStK w0 q r N kd v D s2 w' :=
  ⟨ht, (hg.block N (row_lt h.row) (fun e => by have := Option.some.inj e; have := h.qr; have := h.rN; omega)).trans h.row, (hg.block _ (row_lt h.res) (fun e => by have := Option.some.inj e; have := h.qr; omega)).trans h.res, h.own.grownQ hg h.w0q h.off, h.w0q, h.qr, h.rN⟩
theorem TbStK.below (h : TbStK w0 q r N kd v D s wr) (hb : Below wr.heap.size wr w') : TbStK w0 q r N kd v D s w' :=
  ⟨h.tk.below hb, (hb.block N (row_lt h.row)).trans h.row, (hb.block _ (row_lt h.res)).trans h.res, h.own.go hb, h.w0q, h.qr, h.rN⟩
theorem TbStK.put (h : TbStK w0 q r N kd v D s wr) {v' : Value} {D' : List Kd} (hm : MkK w0 w' v' D') (hg : wr.grownBy w' v.ownBlock) : TbStK w0 q r N kd v' D' s (w'.setCell ⟨N, 2, none⟩ v') := by
  have hq := h.off
  have hN := h.own.off h.row (by decide)
  have hR := h.own.off h.res (by decide)
  obtain ⟨S, h1, h2, h3⟩ := h.tk
  have tq : w'.heap[q]? = _ := (hg.block q h1.lt (fun e => hq e.symm)).trans h1
  have tN := (hg.block N (row_lt h.row) (fun e => hN e.symm)).trans h.row
  have tR := (hg.block _ (row_lt h.res) (fun e => hR e.symm)).trans h.res
  have hs := grown_setCell w' ⟨N, 2, none⟩ v'
  have qr := h.qr
  have rN := h.rN
  have q0 := h.w0q
  refine ⟨⟨S, (hs.block q (row_lt tq) (fun e => by have : q = N := Option.some.inj e; omega)).trans tq, h2, h3⟩, ?_, (hs.block _ (row_lt tR) (fun e => by have : r = N := Option.some.inj e; omega)).trans tR, hm.grownQ hs (show w0.heap.size ≤ N by omega) (hm.off tN (by decide)), h.w0q, h.qr, h.rN⟩
  simp [World.setCell, tN, Array.getElem?_modify]
theorem TbStK.out (h : TbStK w0 q r N kd v D s wr) : NdOwn w0 (wr.setRow r #[.int .u8 kd, zS, v, zS]) #[.int .u8 kd, zS, v, zS] ⟨kd, [], D, []⟩ ∧ (wr.setRow r #[.int .u8 kd, zS, v, zS]).heap[r]? = some (.cells #[.int .u8 kd, zS, v, zS] 27 (0, 0)) ∧ BagR (wr.setRow r #[.int .u8 kd, zS, v, zS]) q s ∧ Below w0.heap.size w0 (wr.setRow r #[.int .u8 kd, zS, v, zS]) := by
  have hs := grown_setRow wr r #[.int .u8 kd, zS, v, zS]
  have qr := h.qr
  have q0 := h.w0q
  have hm : MkK w0 (wr.setRow r #[.int .u8 kd, zS, v, zS]) v D := h.own.grownQ hs (by omega) (h.own.off h.res (by decide))
  exact ⟨⟨_, _, _, rfl, Mk.nil hm.2, hm, Mk.nil hm.2⟩, setRow_heap' h.res, bag_far h.tk (by omega) _, hm.2⟩
end
/-- where the taking of V stands: r: the result's variable, N: the node's -/
structure TbStV (w0 : World) (q r N kd : Nat) (v : Value) (D : List Vo) (s : S) (wr : World) : Prop where
  tk : BagR wr q s
  row : wr.heap[N]? = some (.cells #[.int .u8 kd, zS, zS, v] 27 (0, 0))
  res : wr.heap[r]? = some (.cells #[.int .u8 0, zS, zS, zS] 27 (0, 0))
  own : MkV w0 wr v D
  w0q : w0.heap.size ≤ q
  qr : q < r
  rN : r < N
section
variable {w0 wr w' : World} {q r N kd : Nat} {v : Value} {D : List Vo} {s s2 : S}
theorem TbStV.off (h : TbStV w0 q r N kd v D s wr) : v.ownBlock ≠ some q := by
  obtain ⟨S, h1, _⟩ := h.tk
  exact h.own.off h1 (by decide)
theorem TbStV.took (h : TbStV w0 q r N kd v D s wr) (ht : BagR w' q s2) (hg : wr.grownBy w' (some q)) : TbStV w0 q r N kd v D s2 w' :=
  ⟨ht, (hg.block N (row_lt h.row) (fun e => by have := Option.some.inj e; have := h.qr; have := h.rN; omega)).trans h.row, (hg.block _ (row_lt h.res) (fun e => by have := Option.some.inj e; have := h.qr; omega)).trans h.res, h.own.grownQ hg h.w0q h.off, h.w0q, h.qr, h.rN⟩
theorem TbStV.below (h : TbStV w0 q r N kd v D s wr) (hb : Below wr.heap.size wr w') : TbStV w0 q r N kd v D s w' :=
  ⟨h.tk.below hb, (hb.block N (row_lt h.row)).trans h.row, (hb.block _ (row_lt h.res)).trans h.res, h.own.go hb, h.w0q, h.qr, h.rN⟩
theorem TbStV.put (h : TbStV w0 q r N kd v D s wr) {v' : Value} {D' : List Vo} (hm : MkV w0 w' v' D') (hg : wr.grownBy w' v.ownBlock) : TbStV w0 q r N kd v' D' s (w'.setCell ⟨N, 3, none⟩ v') := by
  have hq := h.off
  have hN := h.own.off h.row (by decide)
  have hR := h.own.off h.res (by decide)
  obtain ⟨S, h1, h2, h3⟩ := h.tk
  have tq : w'.heap[q]? = _ := (hg.block q h1.lt (fun e => hq e.symm)).trans h1
  have tN := (hg.block N (row_lt h.row) (fun e => hN e.symm)).trans h.row
  have tR := (hg.block _ (row_lt h.res) (fun e => hR e.symm)).trans h.res
  have hs := grown_setCell w' ⟨N, 3, none⟩ v'
  have qr := h.qr
  have rN := h.rN
  have q0 := h.w0q
  refine ⟨⟨S, (hs.block q (row_lt tq) (fun e => by have : q = N := Option.some.inj e; omega)).trans tq, h2, h3⟩, ?_, (hs.block _ (row_lt tR) (fun e => by have : r = N := Option.some.inj e; omega)).trans tR, hm.grownQ hs (show w0.heap.size ≤ N by omega) (hm.off tN (by decide)), h.w0q, h.qr, h.rN⟩
  simp [World.setCell, tN, Array.getElem?_modify]
theorem TbStV.out (h : TbStV w0 q r N kd v D s wr) : NdOwn w0 (wr.setRow r #[.int .u8 kd, zS, zS, v]) #[.int .u8 kd, zS, zS, v] ⟨kd, [], [], D⟩ ∧ (wr.setRow r #[.int .u8 kd, zS, zS, v]).heap[r]? = some (.cells #[.int .u8 kd, zS, zS, v] 27 (0, 0)) ∧ BagR (wr.setRow r #[.int .u8 kd, zS, zS, v]) q s ∧ Below w0.heap.size w0 (wr.setRow r #[.int .u8 kd, zS, zS, v]) := by
  have hs := grown_setRow wr r #[.int .u8 kd, zS, zS, v]
  have qr := h.qr
  have q0 := h.w0q
  have hm : MkV w0 (wr.setRow r #[.int .u8 kd, zS, zS, v]) v D := h.own.grownQ hs (by omega) (h.own.off h.res (by decide))
  exact ⟨⟨_, _, _, rfl, Mk.nil hm.2, Mk.nil hm.2, hm⟩, setRow_heap' h.res, bag_far h.tk (by omega) _, hm.2⟩
end
theorem rowI (X0 : ByteArray) : (#[.string X0, .string ByteArray.empty] : Array Value) = (It.enc ⟨X0, ByteArray.empty⟩).toArray := rfl
theorem rowK (X0 : ByteArray) : (#[.string X0, .int .u32 0, .int .u8 0, .int .u8 0, .int .u8 0, .int .u8 0, .int .u8 0, .int .u8 0, .int .u8 0, .int .u8 0, .int .u8 0, .int .u8 0, .int .u8 0, .int .u8 0, .int .u8 0, .int .u8 0, .int .u8 0, .int .u8 0, .int .u8 0, .int .u8 0, .int .u8 0, .int .u8 0, .int .u8 0, .int .u8 0, .int .u8 0, .int .u8 0, .int .u8 0, .int .u8 0, .int .u8 0, .int .u8 0, .int .u8 0, .int .u8 0, .int .u8 0, .int .u8 0] : Array Value) = (ecK ⟨X0, 0, Z32⟩).toArray := by unfold ecK; rw [fix_Z]; rfl
theorem rowV (X0 : ByteArray) : (#[.string X0, .int .u8 0, .string ByteArray.empty, .int .u64 0, .int .u32 0, .int .u8 0, .int .u8 0, .int .u8 0, .int .u8 0, .int .u8 0, .int .u8 0, .int .u8 0, .int .u8 0, .int .u8 0, .int .u8 0, .int .u8 0, .int .u8 0, .int .u8 0, .int .u8 0, .int .u8 0, .int .u8 0, .int .u8 0, .int .u8 0, .int .u8 0, .int .u8 0, .int .u8 0, .int .u8 0, .int .u8 0, .int .u8 0, .int .u8 0, .int .u8 0, .int .u8 0, .int .u8 0, .int .u8 0, .int .u8 0, .int .u8 0, .int .u8 0] : Array Value) = (ecV ⟨X0, 0, ByteArray.empty, 0, 0, Z32⟩).toArray := by unfold ecV; rw [fix_Z]; rfl
theorem litK_one (X0 : ByteArray) : (#[.string X0, .int .u32 0, .int .u8 0, .int .u8 0, .int .u8 0, .int .u8 0, .int .u8 0, .int .u8 0, .int .u8 0, .int .u8 0, .int .u8 0, .int .u8 0, .int .u8 0, .int .u8 0, .int .u8 0, .int .u8 0, .int .u8 0, .int .u8 0, .int .u8 0, .int .u8 0, .int .u8 0, .int .u8 0, .int .u8 0, .int .u8 0, .int .u8 0, .int .u8 0, .int .u8 0, .int .u8 0, .int .u8 0, .int .u8 0, .int .u8 0, .int .u8 0, .int .u8 0, .int .u8 0] : Array Value).all (·.oneCell') = true := by rw [rowK X0]; exact all_of_one (ecK_one _)
theorem litV_one (X0 : ByteArray) : (#[.string X0, .int .u8 0, .string ByteArray.empty, .int .u64 0, .int .u32 0, .int .u8 0, .int .u8 0, .int .u8 0, .int .u8 0, .int .u8 0, .int .u8 0, .int .u8 0, .int .u8 0, .int .u8 0, .int .u8 0, .int .u8 0, .int .u8 0, .int .u8 0, .int .u8 0, .int .u8 0, .int .u8 0, .int .u8 0, .int .u8 0, .int .u8 0, .int .u8 0, .int .u8 0, .int .u8 0, .int .u8 0, .int .u8 0, .int .u8 0, .int .u8 0, .int .u8 0, .int .u8 0, .int .u8 0, .int .u8 0, .int .u8 0, .int .u8 0] : Array Value).all (·.oneCell') = true := by rw [rowV X0]; exact all_of_one (ecV_one _)
theorem litK_inf (X0 : ByteArray) : (Tryz.prog.info? 55).map (·.size) = some (#[.string X0, .int .u32 0, .int .u8 0, .int .u8 0, .int .u8 0, .int .u8 0, .int .u8 0, .int .u8 0, .int .u8 0, .int .u8 0, .int .u8 0, .int .u8 0, .int .u8 0, .int .u8 0, .int .u8 0, .int .u8 0, .int .u8 0, .int .u8 0, .int .u8 0, .int .u8 0, .int .u8 0, .int .u8 0, .int .u8 0, .int .u8 0, .int .u8 0, .int .u8 0, .int .u8 0, .int .u8 0, .int .u8 0, .int .u8 0, .int .u8 0, .int .u8 0, .int .u8 0, .int .u8 0] : Array Value).size := infoK34
theorem litV_inf (X0 : ByteArray) : (Tryz.prog.info? 59).map (·.size) = some (#[.string X0, .int .u8 0, .string ByteArray.empty, .int .u64 0, .int .u32 0, .int .u8 0, .int .u8 0, .int .u8 0, .int .u8 0, .int .u8 0, .int .u8 0, .int .u8 0, .int .u8 0, .int .u8 0, .int .u8 0, .int .u8 0, .int .u8 0, .int .u8 0, .int .u8 0, .int .u8 0, .int .u8 0, .int .u8 0, .int .u8 0, .int .u8 0, .int .u8 0, .int .u8 0, .int .u8 0, .int .u8 0, .int .u8 0, .int .u8 0, .int .u8 0, .int .u8 0, .int .u8 0, .int .u8 0, .int .u8 0, .int .u8 0, .int .u8 0] : Array Value).size := infoV37
theorem fldI (x : It.Itm) (i : Nat) (h : i < 2) : i + 1 ≤ (It.enc x).toArray.size := h
theorem fldK (x : Kd) (i : Nat) (h : i < 34) : i + 1 ≤ (ecK x).toArray.size := by rw [List.size_toArray, ecK_len]; exact h
theorem fldV (x : Vo) (i : Nat) (h : i < 37) : i + 1 ≤ (ecV x).toArray.size := by rw [List.size_toArray, ecV_len]; exact h
theorem hashK (x : Kd) (l : List UInt8) (h : l.length = 32) : ((ecK x).toArray.toList.take 2 ++ (u8s l).toArray.toList ++ (ecK x).toArray.toList.drop (2 + (u8s l).toArray.size)).toArray = (ecK ⟨x.k, x.n, l⟩).toArray := by
  have e : (ecK x).drop (2 + (u8s l).toArray.size) = [] := List.drop_of_length_le (by rw [ecK_len, List.size_toArray, u8s_length, h]; decide)
  rw [List.toList_toArray, List.toList_toArray, e, List.append_nil]
  unfold ecK
  rw [fix_of h]
  rfl
theorem hashV (x : Vo) (l : List UInt8) (h : l.length = 32) : ((ecV x).toArray.toList.take 5 ++ (u8s l).toArray.toList ++ (ecV x).toArray.toList.drop (5 + (u8s l).toArray.size)).toArray = (ecV ⟨x.nm, x.kd, x.fr, x.bn, x.rt, l⟩).toArray := by
  have e : (ecV x).drop (5 + (u8s l).toArray.size) = [] := List.drop_of_length_le (by rw [ecV_len, List.size_toArray, u8s_length, h]; decide)
  rw [List.toList_toArray, List.toList_toArray, e, List.append_nil]
  unfold ecV
  rw [fix_of h]
  rfl
set_option maxRecDepth 100000 in
set_option maxHeartbeats 8000000 in
theorem takeI (w0 : World) (l0 : List UInt8) (h2 : 2 ≤ l0.length) (q : Nat) (hq0 : w0.heap.size ≤ q) (w : World) (hB0 : Below w0.heap.size w0 w) (h : BagR w q (l0, false)) (hkd : (tkNum 1 (l0, false)).1 = 1) :
    Calls Tryz.prog 23 #[.pointer (some ⟨q, 0, none⟩)] w (BtPost w0 q l0) := by
  obtain ⟨kd, ⟨l1, b1⟩, e1⟩ : ∃ V s2, tkNum 1 (l0, false) = (V, s2) := ⟨_, _, rfl⟩
  obtain ⟨c, ⟨l2, b2⟩, e2⟩ : ∃ V s2, tkNum 1 (l1, b1) = (V, s2) := ⟨_, _, rfl⟩
  have hkd8 := num_byte (l0, false)
  have hc8 := num_byte (l1, b1)
  have m1 := num1_more (s := (l0, false)) (by show 1 ≤ l0.length; omega)
  rw [e1] at m1 hkd8 hkd
  obtain ⟨rfl, rfl⟩ : l1 = l0.drop 1 ∧ b1 = false := by simpa using m1
  have m2 := num1_more (s := (l0.drop 1, false)) (by show 1 ≤ (l0.drop 1).length; rw [List.length_drop]; omega)
  rw [e2] at m2 hc8
  obtain ⟨hl2, rfl⟩ : l2 = (l0.drop 1).drop 1 ∧ b2 = false := by simpa using m2
  clear hl2 m1 m2
  generalize l0.drop 1 = l1 at *
  dsimp only at hkd8 hc8 hkd
  have HC1 := Lib.hid (show ∀ w, BagR w q (l0, false) → Calls Tryz.prog 48 #[.pointer (some ⟨q, 0, none⟩), .int .i64 1] w fun e w' => e = .returned (.int .u64 (kd : Nat)) ∧ BagR w' q (l1, false) ∧ w.grownBy w' (some q) from fun w h => (number_R (l0, false) 1 q (by omega) (by omega) w h).mono fun e w' hh => by
    obtain ⟨v, rfl, _, hv, hb, hg⟩ := hh
    rw [e1] at hv hb
    rw [hv rfl]
    exact ⟨rfl, hb, hg⟩)
  have HC2 := Lib.hid (show ∀ w, BagR w q (l1, false) → Calls Tryz.prog 48 #[.pointer (some ⟨q, 0, none⟩), .int .i64 1] w fun e w' => e = .returned (.int .u64 (c : Nat)) ∧ BagR w' q (l2, false) ∧ w.grownBy w' (some q) from fun w h => (number_R (l1, false) 1 q (by omega) (by omega) w h).mono fun e w' hh => by
    obtain ⟨v, rfl, _, hv, hb, hg⟩ := hh
    rw [e2] at hv hb
    rw [hv rfl]
    exact ⟨rfl, hb, hg⟩)
  have HT := Lib.hid (show tbN l0 = (⟨kd, (tkMany cI c (l2, false)).1, [], []⟩, (tkMany cI c (l2, false)).2.2) by
    unfold tbN
    rw [e1]
    dsimp only
    rw [e2]
    dsimp only
    rw [if_pos hkd])
  have HKD := Lib.hid hkd
  have eu : IntKind.u8.wrap (kd : Int) = (kd : Int) := IntWalk.u8_in _ (by omega)
  have eu2 : IntKind.i64.wrap (c : Int) = (c : Int) := IntWalk.i64_in _ ⟨by omega, by omega⟩
  have HC8 := Lib.hid hc8
  have hal : Below w.heap.size w (w.alloc (.cells #[.int .u8 0, zS, zS, zS] 27)) := (Below.refl _ _).alloc (Nat.le_refl _) _
  have HQL := Lib.hid (show q < w.heap.size from (by obtain ⟨S, h1, _⟩ := h; exact h1.lt))
  have HBG0 := Lib.hid (h.below hal)
  have HR0 := Lib.hid (heap_alloc_new w (.cells #[.int .u8 0, zS, zS, zS] 27))
  have HW0 := Lib.hid (hB0.trans (hal.mono hB0.size))
  have HQ0 := Lib.hid hq0
  clear hal h hB0 hq0 hkd e1 e2 h2 hkd8
  go_enter Tryz.func23, Tryz.ntmps23
  go_wp2_with fail
  generalize w.alloc _ = w1 at *
  generalize w.heap.size = r at *
  refine (HC1.out _ HBG0.out).mono ?_
  rintro e w2 ⟨rfl, hb, hg⟩
  have HB2 := Lib.hid hb
  have HR2 := Lib.hid ((hg.block r (row_lt HR0.out) (fun e => by have := Option.some.inj e; have := HQL.out; omega)).trans HR0.out)
  have HW2 := Lib.hid (HW0.out.grown hg HW0.out.size (fun k hk => by cases hk; exact HQ0.out))
  clear hb hg HBG0 HR0 HW0 HC1
  go_wp2_with fail
  have hal : Below w2.heap.size w2 (w2.alloc (.cells #[.int .u8 kd, zS, zS, zS] 27)) := (Below.refl _ _).alloc (Nat.le_refl _) _
  have HN3 := Lib.hid (heap_alloc_new w2 (.cells #[.int .u8 kd, zS, zS, zS] 27))
  have HB3 := Lib.hid (HB2.out.below hal)
  have HR3 := Lib.hid ((hal.block r (row_lt HR2.out)).trans HR2.out)
  have HW3 := Lib.hid (HW2.out.trans (hal.mono HW2.out.size))
  have HS3 := Lib.hid (show TbStI w0 q r w2.heap.size kd zS [] (l1, false) (w2.alloc (.cells #[.int .u8 kd, zS, zS, zS] 27)) from ⟨HB3.out, HN3.out, HR3.out, Mk.nil HW3.out, HQ0.out, HQL.out, row_lt HR2.out⟩)
  clear hal HN3 HB2 HR2 HW2 HR3 HW3
  generalize w2.alloc _ = w3 at *
  generalize w2.heap.size = N at *
  refine (HC2.out _ HB3.out).mono ?_
  rintro e w4 ⟨rfl, hb, hg⟩
  have HS4 := Lib.hid (HS3.out.took hb hg)
  clear hb hg HS3 HB3 HC2 eu
  go_wp2_with fail
  go_loopw [5] (fun iv wr => ∃ (i : Nat) (v1 : Value) (D : List It.Itm) (s : S), i ≤ c ∧ iv = .int .i64 i ∧ Hid (TbStI w0 q r N kd v1 D s wr) ∧ Hid (D.length ≤ i) ∧ Hid (InvB cI c (l2, false) i D s)) (fun iv _ => c - (intOf iv).toNat)
  case atStart => exact ⟨0, zS, [], (l2, false), Nat.zero_le _, by go_num, HS4.out, Nat.zero_le _, ⟨fun _ => TkInv.start, fun h => (by cases h)⟩⟩
  case round =>
    obtain ⟨i, v1, D, s, hi, rfl, hst, hdl, hinv⟩ := hrel
    obtain ⟨SB, hbag, hbz, hbe⟩ := (Hid.out hst).tk
    have c1 : wr.cell? ⟨q, 1, none⟩ = some (.bool s.2) := hbag.c1
    have HQW := Lib.hid hbag.lt
    clear hbag hbz hbe
    have k0 : wr.cell? ⟨N, 0, none⟩ = some (.int .u8 kd) := cell_of_row _ _ 0 _ _ _ (Hid.out hst).row
    have q1 : ((kd : Int) == 1) = true := by rw [HKD.out]; rfl
    have HINV := Lib.hid (Hid.out hinv)
    have HST := Lib.hid (Hid.out hst)
    have HDL := Lib.hid (show D.length ≤ 255 by have := Hid.out hdl; omega)
    have HDLI := Lib.hid (Hid.out hdl)
    clear hinv hst hdl
    cases hb : s.2
    · rw [hb] at c1
      have HSB := Lib.hid hb
      clear hb
      by_cases hlt : i < c
      · have HNL := Lib.hid (show N < wr.heap.size from row_lt HST.out.row)
        have HT0 := Lib.hid (fun W (hB : BagR W q s) => text_R s q W hB)
        go_wp2_with fail
        refine (HT0.out _ HST.out.tk).mono ?_
        rintro e w1 ⟨X0, rfl, hz, hX, hB, hg⟩
        have HX0 := Lib.hid hX
        have HB1 := Lib.hid hB
        have HG1 := Lib.hid hg
        obtain ⟨s1, he1⟩ : ∃ s1, (tkTxt s).2 = s1 := ⟨_, rfl⟩
        rw [he1] at HB1 HX0
        have HE1 := Lib.hid he1
        clear hz hX hB hg he1 HT0 c1 k0
        have HGS := Lib.hid (Nat.lt_of_lt_of_le HQW.out HG1.out.size)
        go_wp2_with fail
        have hal : Below w1.heap.size w1 (w1.alloc (.cells (It.enc ⟨X0, ByteArray.empty⟩).toArray 61)) := (Below.refl _ _).alloc (Nat.le_refl _) _
        have HR2 := Lib.hid (heap_alloc_new w1 (.cells (It.enc ⟨X0, ByteArray.empty⟩).toArray 61))
        have HB2 := Lib.hid (HB1.out.below hal)
        have HG2 := Lib.hid (grown_trans HG1.out (grown_of_below hal _))
        have HGN := Lib.hid (show wr.heap.size ≤ w1.heap.size from HG1.out.size)
        have HGQ := Lib.hid (show w1.heap.size ≠ q from Nat.ne_of_gt HGS.out)
        clear hal HB1 HG1
        change Calls _ _ _ (w1.alloc (.cells (It.enc ⟨X0, ByteArray.empty⟩).toArray 61)) _
        generalize w1.alloc _ = w2 at *
        generalize w1.heap.size = g at *
        refine (text_R s1 q _ HB2.out).mono ?_
        rintro e w3 ⟨X1, rfl, hz, hX, hB, hg⟩
        have HX1 := Lib.hid hX
        have HB3 := Lib.hid hB
        have HG3 := Lib.hid (grown_trans HG2.out hg)
        have HR3 := Lib.hid ((hg.block g (row_lt HR2.out) (fun e => HGQ.out (Option.some.inj e))).trans HR2.out)
        obtain ⟨s2, he2⟩ : ∃ s9, (tkTxt s1).2 = s9 := ⟨_, rfl⟩
        rw [he2] at HB3 HX1
        have HE2 := Lib.hid he2
        clear hX hB hg he2 HB2 HG2 HR2
        clear hz
        have HINV2 := Lib.hid (show InvB cI c (l2, false) (i + 1) (D ++ [⟨X0, X1⟩]) s2 by
          have h := HINV.out.go HSB.out hlt I_less (x := ⟨X0, X1⟩) (elI (by rw [HE1.out]; exact HX0.out) (by rw [HE1.out, HE2.out]; exact HX1.out))
          rwa [show (cI.tk s).2 = s2 by show (tkTxt (tkTxt s).2).2 = s2; rw [HE1.out, HE2.out]] at h)
        have HDL2 := Lib.hid (show (D ++ [(⟨X0, X1⟩ : It.Itm)]).length ≤ i + 1 by rw [List.length_append]; have := HDLI.out; simp; exact this)
        go_wp2_with (first
          | (refine wpList_store_part rfl 9 (.tmp 40) (.tmp 39) rfl g 1 (.string X1) #[.string X1] rfl rfl 61 (It.enc ⟨X0, ByteArray.empty⟩).toArray (It.enc ⟨X0, X1⟩).toArray HR3.out rfl infoS1 (fldI _ _ (by decide)) (one_all _ rfl) (by rfl) ?_; have HR4 := Lib.hid (setRow_heap' (cs := (It.enc ⟨X0, X1⟩).toArray) HR3.out); have HB4 := Lib.hid (bag_far HB3.out HGQ.out ((It.enc ⟨X0, X1⟩).toArray)); have HG4 := Lib.hid (far_row HG3.out HGN.out ((It.enc ⟨X0, X1⟩).toArray)); generalize World.setRow _ _ _ = w4 at *; clear HR3 HB3 HG3; have cN : w4.cell? ⟨N, 1, none⟩ = some v1 := cell_of_row _ _ 1 _ _ _ (HST.out.took HB4.out HG4.out).row)
          | (refine wpList_load_row rfl 61 (.tmp 6) rfl g rfl 61 (It.enc ⟨X0, X1⟩).toArray (0, 0) _ HR4.out Tryz.underlying61 rfl (infoIs _) ?_)
          | (refine wpList_plain rfl (fun K1 hK1 => op_oneI (.tmp 43) ⟨X0, X1⟩ rfl rfl (hK1 _ _ ?_)); have hal : Below w4.heap.size w4 (w4.alloc (.cells (It.enc (⟨X0, X1⟩ : It.Itm)).toArray 61)) := (Below.refl _ _).alloc (Nat.le_refl _) _; have HS9 := Lib.hid ((HST.out.took HB4.out HG4.out).below hal); have HX9 := Lib.hid (heap_alloc_new w4 (.cells (It.enc (⟨X0, X1⟩ : It.Itm)).toArray 61)); clear hal cN; generalize w4.alloc _ = w9 at *; generalize w4.heap.size = g9 at *)
          | (refine wpList_plain rfl (fun K1 hK1 => op_catI HS9.out.own ⟨X0, X1⟩ g9 1 HX9.out (by have := HDL.out; omega) (.tmp 42) (.tmp 44) rfl rfl rfl (fun v5 w5 hm5 hg5 hat5 => hK1 _ _ ?_)); obtain ⟨A5, n5, c5, rfl⟩ : ∃ A n c, v5 = .slice A n c := (by obtain ⟨A, c, h, _⟩ := hm5.ls It.enc_len; exact ⟨A, _, c, h⟩); have HS5x := Lib.hid (HS9.out.put hm5 hg5); have hN5 := HS9.out.own.off HS9.out.row (by decide); have tN := (hg5.block N (row_lt HS9.out.row) (fun e => hN5 e.symm)).trans HS9.out.row; have c5N := cell_of_row w5 _ 1 _ _ _ tN; have f5N : w5.frozen? ⟨N, 1, none⟩ = false := frozen_of_row _ _ _ _ _ tN; clear hm5 hg5 hat5 hN5 tN))
        exact ⟨⟨i + 1, _, _, s2, by omega, by go_num, HS5x.out, HDL2.out, HINV2.out⟩, by simp [intOf] <;> omega⟩
      · have HDN := Lib.hid (show (tkMany cI c (l2, false)) = (D, (s.1, false)) from (HINV.out.1 HSB.out).done hlt)
        have HP := Lib.hid (show (tbN l0).2 = s.2 ∧ ((tbN l0).2 = false → (tbN l0).1 = ⟨kd, D, [], []⟩) by rw [HT.out, HDN.out, HSB.out]; exact ⟨rfl, fun _ => rfl⟩)
        have HONE := Lib.hid (show (#[.int .u8 kd, v1, zS, zS] : Array Value).all (·.oneCell') = true by rcases HST.out.own.1.2 with ⟨h, _⟩ | ⟨g, cap, cur, h, _⟩ <;> (subst h; exact four_cells _ _ _ _ rfl rfl rfl rfl))
        obtain ⟨hown, hrow, hbag, hbel⟩ := HST.out.out
        have HOWN := Lib.hid hown
        have HROW := Lib.hid hrow
        have HBAG := Lib.hid hbag
        have HBEL := Lib.hid hbel
        clear hown hrow hbag hbel
        go_wp2_with (first
          | (refine wpList_load_row rfl 27 (.tmp 3) rfl N rfl 27 #[.int .u8 kd, v1, zS, zS] (0, 0) _ HST.out.row Tryz.underlying27 rfl infoN4 ?_)
          | (refine wpList_store_row rfl 27 (.tmp 2) (.tmp 93) rfl r #[.int .u8 kd, v1, zS, zS] rfl rfl 27 #[.int .u8 0, zS, zS, zS] HST.out.res infoN4 rfl HONE.out ?_))
        refine bodyPost_ret (v := .agg #[.int .u8 kd, v1, zS, zS]) (results_cell_row rfl _ _ r 27 #[.int .u8 kd, v1, zS, zS] (0, 0) _ rfl HROW.out Tryz.underlying27 rfl infoN4) rfl ?_
        obtain ⟨S, b1, _, _⟩ := HBAG.out
        exact ⟨_, S, rfl, by rw [HP.out.1]; exact b1, HBEL.out, rfl, HONE.out, fun h => by rw [HP.out.2 h]; exact HOWN.out⟩
    · rw [hb] at c1
      have HSB := Lib.hid hb
      clear hb
      have HP := Lib.hid (show (tbN l0).2 = s.2 ∧ ((tbN l0).2 = false → (tbN l0).1 = ⟨kd, D, [], []⟩) by
        have h := HINV.out.2 HSB.out
        rw [HT.out, HSB.out]
        exact ⟨h, fun h2 => by rw [show (tkMany cI c (l2, false)).2.2 = false from h2] at h; cases h⟩)
      by_cases hlt : i < c
      · have HONE := Lib.hid (show (#[.int .u8 kd, v1, zS, zS] : Array Value).all (·.oneCell') = true by rcases HST.out.own.1.2 with ⟨h, _⟩ | ⟨g, cap, cur, h, _⟩ <;> (subst h; exact four_cells _ _ _ _ rfl rfl rfl rfl))
        obtain ⟨hown, hrow, hbag, hbel⟩ := HST.out.out
        have HOWN := Lib.hid hown
        have HROW := Lib.hid hrow
        have HBAG := Lib.hid hbag
        have HBEL := Lib.hid hbel
        clear hown hrow hbag hbel
        go_wp2_with (first
          | (refine wpList_load_row rfl 27 (.tmp 3) rfl N rfl 27 #[.int .u8 kd, v1, zS, zS] (0, 0) _ HST.out.row Tryz.underlying27 rfl infoN4 ?_)
          | (refine wpList_store_row rfl 27 (.tmp 2) (.tmp 93) rfl r #[.int .u8 kd, v1, zS, zS] rfl rfl 27 #[.int .u8 0, zS, zS, zS] HST.out.res infoN4 rfl HONE.out ?_))
        refine bodyPost_ret (v := .agg #[.int .u8 kd, v1, zS, zS]) (results_cell_row rfl _ _ r 27 #[.int .u8 kd, v1, zS, zS] (0, 0) _ rfl HROW.out Tryz.underlying27 rfl infoN4) rfl ?_
        obtain ⟨S, b1, _, _⟩ := HBAG.out
        exact ⟨_, S, rfl, by rw [HP.out.1]; exact b1, HBEL.out, rfl, HONE.out, fun h => by rw [HP.out.2 h]; exact HOWN.out⟩
      · have HONE := Lib.hid (show (#[.int .u8 kd, v1, zS, zS] : Array Value).all (·.oneCell') = true by rcases HST.out.own.1.2 with ⟨h, _⟩ | ⟨g, cap, cur, h, _⟩ <;> (subst h; exact four_cells _ _ _ _ rfl rfl rfl rfl))
        obtain ⟨hown, hrow, hbag, hbel⟩ := HST.out.out
        have HOWN := Lib.hid hown
        have HROW := Lib.hid hrow
        have HBAG := Lib.hid hbag
        have HBEL := Lib.hid hbel
        clear hown hrow hbag hbel
        go_wp2_with (first
          | (refine wpList_load_row rfl 27 (.tmp 3) rfl N rfl 27 #[.int .u8 kd, v1, zS, zS] (0, 0) _ HST.out.row Tryz.underlying27 rfl infoN4 ?_)
          | (refine wpList_store_row rfl 27 (.tmp 2) (.tmp 93) rfl r #[.int .u8 kd, v1, zS, zS] rfl rfl 27 #[.int .u8 0, zS, zS, zS] HST.out.res infoN4 rfl HONE.out ?_))
        refine bodyPost_ret (v := .agg #[.int .u8 kd, v1, zS, zS]) (results_cell_row rfl _ _ r 27 #[.int .u8 kd, v1, zS, zS] (0, 0) _ rfl HROW.out Tryz.underlying27 rfl infoN4) rfl ?_
        obtain ⟨S, b1, _, _⟩ := HBAG.out
        exact ⟨_, S, rfl, by rw [HP.out.1]; exact b1, HBEL.out, rfl, HONE.out, fun h => by rw [HP.out.2 h]; exact HOWN.out⟩
set_option maxRecDepth 100000 in
set_option maxHeartbeats 8000000 in
theorem takeK (w0 : World) (l0 : List UInt8) (h2 : 2 ≤ l0.length) (q : Nat) (hq0 : w0.heap.size ≤ q) (w : World) (hB0 : Below w0.heap.size w0 w) (h : BagR w q (l0, false)) (hkd : (tkNum 1 (l0, false)).1 = 2) :
    Calls Tryz.prog 23 #[.pointer (some ⟨q, 0, none⟩)] w (BtPost w0 q l0) := by
  obtain ⟨kd, ⟨l1, b1⟩, e1⟩ : ∃ V s2, tkNum 1 (l0, false) = (V, s2) := ⟨_, _, rfl⟩
  obtain ⟨c, ⟨l2, b2⟩, e2⟩ : ∃ V s2, tkNum 1 (l1, b1) = (V, s2) := ⟨_, _, rfl⟩
  have hkd8 := num_byte (l0, false)
  have hc8 := num_byte (l1, b1)
  have m1 := num1_more (s := (l0, false)) (by show 1 ≤ l0.length; omega)
  rw [e1] at m1 hkd8 hkd
  obtain ⟨rfl, rfl⟩ : l1 = l0.drop 1 ∧ b1 = false := by simpa using m1
  have m2 := num1_more (s := (l0.drop 1, false)) (by show 1 ≤ (l0.drop 1).length; rw [List.length_drop]; omega)
  rw [e2] at m2 hc8
  obtain ⟨hl2, rfl⟩ : l2 = (l0.drop 1).drop 1 ∧ b2 = false := by simpa using m2
  clear hl2 m1 m2
  generalize l0.drop 1 = l1 at *
  dsimp only at hkd8 hc8 hkd
  have HC1 := Lib.hid (show ∀ w, BagR w q (l0, false) → Calls Tryz.prog 48 #[.pointer (some ⟨q, 0, none⟩), .int .i64 1] w fun e w' => e = .returned (.int .u64 (kd : Nat)) ∧ BagR w' q (l1, false) ∧ w.grownBy w' (some q) from fun w h => (number_R (l0, false) 1 q (by omega) (by omega) w h).mono fun e w' hh => by
    obtain ⟨v, rfl, _, hv, hb, hg⟩ := hh
    rw [e1] at hv hb
    rw [hv rfl]
    exact ⟨rfl, hb, hg⟩)
  have HC2 := Lib.hid (show ∀ w, BagR w q (l1, false) → Calls Tryz.prog 48 #[.pointer (some ⟨q, 0, none⟩), .int .i64 1] w fun e w' => e = .returned (.int .u64 (c : Nat)) ∧ BagR w' q (l2, false) ∧ w.grownBy w' (some q) from fun w h => (number_R (l1, false) 1 q (by omega) (by omega) w h).mono fun e w' hh => by
    obtain ⟨v, rfl, _, hv, hb, hg⟩ := hh
    rw [e2] at hv hb
    rw [hv rfl]
    exact ⟨rfl, hb, hg⟩)
  have HT := Lib.hid (show tbN l0 = (⟨kd, [], (tkMany cK c (l2, false)).1, []⟩, (tkMany cK c (l2, false)).2.2) by
    unfold tbN
    rw [e1]
    dsimp only
    rw [e2]
    dsimp only
    rw [if_neg (by omega), if_pos hkd])
  have HKD := Lib.hid hkd
  have eu : IntKind.u8.wrap (kd : Int) = (kd : Int) := IntWalk.u8_in _ (by omega)
  have eu2 : IntKind.i64.wrap (c : Int) = (c : Int) := IntWalk.i64_in _ ⟨by omega, by omega⟩
  have HC8 := Lib.hid hc8
  have hal : Below w.heap.size w (w.alloc (.cells #[.int .u8 0, zS, zS, zS] 27)) := (Below.refl _ _).alloc (Nat.le_refl _) _
  have HQL := Lib.hid (show q < w.heap.size from (by obtain ⟨S, h1, _⟩ := h; exact h1.lt))
  have HBG0 := Lib.hid (h.below hal)
  have HR0 := Lib.hid (heap_alloc_new w (.cells #[.int .u8 0, zS, zS, zS] 27))
  have HW0 := Lib.hid (hB0.trans (hal.mono hB0.size))
  have HQ0 := Lib.hid hq0
  clear hal h hB0 hq0 hkd e1 e2 h2 hkd8
  go_enter Tryz.func23, Tryz.ntmps23
  go_wp2_with fail
  generalize w.alloc _ = w1 at *
  generalize w.heap.size = r at *
  refine (HC1.out _ HBG0.out).mono ?_
  rintro e w2 ⟨rfl, hb, hg⟩
  have HB2 := Lib.hid hb
  have HR2 := Lib.hid ((hg.block r (row_lt HR0.out) (fun e => by have := Option.some.inj e; have := HQL.out; omega)).trans HR0.out)
  have HW2 := Lib.hid (HW0.out.grown hg HW0.out.size (fun k hk => by cases hk; exact HQ0.out))
  clear hb hg HBG0 HR0 HW0 HC1
  go_wp2_with fail
  have hal : Below w2.heap.size w2 (w2.alloc (.cells #[.int .u8 kd, zS, zS, zS] 27)) := (Below.refl _ _).alloc (Nat.le_refl _) _
  have HN3 := Lib.hid (heap_alloc_new w2 (.cells #[.int .u8 kd, zS, zS, zS] 27))
  have HB3 := Lib.hid (HB2.out.below hal)
  have HR3 := Lib.hid ((hal.block r (row_lt HR2.out)).trans HR2.out)
  have HW3 := Lib.hid (HW2.out.trans (hal.mono HW2.out.size))
  have HS3 := Lib.hid (show TbStK w0 q r w2.heap.size kd zS [] (l1, false) (w2.alloc (.cells #[.int .u8 kd, zS, zS, zS] 27)) from ⟨HB3.out, HN3.out, HR3.out, Mk.nil HW3.out, HQ0.out, HQL.out, row_lt HR2.out⟩)
  clear hal HN3 HB2 HR2 HW2 HR3 HW3
  generalize w2.alloc _ = w3 at *
  generalize w2.heap.size = N at *
  refine (HC2.out _ HB3.out).mono ?_
  rintro e w4 ⟨rfl, hb, hg⟩
  have HS4 := Lib.hid (HS3.out.took hb hg)
  clear hb hg HS3 HB3 HC2 eu
  go_wp2_with fail
  go_loopw [5] (fun iv wr => ∃ (i : Nat) (v1 : Value) (D : List Kd) (s : S), i ≤ c ∧ iv = .int .i64 i ∧ Hid (TbStK w0 q r N kd v1 D s wr) ∧ Hid (D.length ≤ i) ∧ Hid (InvB cK c (l2, false) i D s)) (fun iv _ => c - (intOf iv).toNat)
  case atStart => exact ⟨0, zS, [], (l2, false), Nat.zero_le _, by go_num, HS4.out, Nat.zero_le _, ⟨fun _ => TkInv.start, fun h => (by cases h)⟩⟩
  case round =>
    obtain ⟨i, v1, D, s, hi, rfl, hst, hdl, hinv⟩ := hrel
    obtain ⟨SB, hbag, hbz, hbe⟩ := (Hid.out hst).tk
    have c1 : wr.cell? ⟨q, 1, none⟩ = some (.bool s.2) := hbag.c1
    have HQW := Lib.hid hbag.lt
    clear hbag hbz hbe
    have k0 : wr.cell? ⟨N, 0, none⟩ = some (.int .u8 kd) := cell_of_row _ _ 0 _ _ _ (Hid.out hst).row
    have q1 : ((kd : Int) == 1) = false := by rw [beq_eq_false_iff_ne]; have := HKD.out; omega
    have q2 : ((kd : Int) == 2) = true := by rw [HKD.out]; rfl
    have HINV := Lib.hid (Hid.out hinv)
    have HST := Lib.hid (Hid.out hst)
    have HDL := Lib.hid (show D.length ≤ 255 by have := Hid.out hdl; omega)
    have HDLI := Lib.hid (Hid.out hdl)
    clear hinv hst hdl
    cases hb : s.2
    · rw [hb] at c1
      have HSB := Lib.hid hb
      clear hb
      by_cases hlt : i < c
      · have HNL := Lib.hid (show N < wr.heap.size from row_lt HST.out.row)
        have HT0 := Lib.hid (fun W (hB : BagR W q s) => text_R s q W hB)
        go_wp2_with fail
        refine (HT0.out _ HST.out.tk).mono ?_
        rintro e w1 ⟨X0, rfl, hz, hX, hB, hg⟩
        have HX0 := Lib.hid hX
        have HB1 := Lib.hid hB
        have HG1 := Lib.hid hg
        obtain ⟨s1, he1⟩ : ∃ s1, (tkTxt s).2 = s1 := ⟨_, rfl⟩
        rw [he1] at HB1 HX0
        have HE1 := Lib.hid he1
        clear hz hX hB hg he1 HT0 c1 k0
        have HGS := Lib.hid (Nat.lt_of_lt_of_le HQW.out HG1.out.size)
        go_wp2_with (refine wpList_fresh rfl 55 (.tmp 7) (.tmp 51) rfl #[.string X0, .int .u32 0, .int .u8 0, .int .u8 0, .int .u8 0, .int .u8 0, .int .u8 0, .int .u8 0, .int .u8 0, .int .u8 0, .int .u8 0, .int .u8 0, .int .u8 0, .int .u8 0, .int .u8 0, .int .u8 0, .int .u8 0, .int .u8 0, .int .u8 0, .int .u8 0, .int .u8 0, .int .u8 0, .int .u8 0, .int .u8 0, .int .u8 0, .int .u8 0, .int .u8 0, .int .u8 0, .int .u8 0, .int .u8 0, .int .u8 0, .int .u8 0, .int .u8 0, .int .u8 0] _ 55 rfl rfl (litK_inf X0) rfl (litK_one X0) ?_; intro w2 hb2 hr2 hz2; rw [rowK X0] at hr2; have HR2 := Lib.hid hr2; have HB2 := Lib.hid (HB1.out.below hb2); have HG2 := Lib.hid (grown_trans HG1.out (grown_of_below hb2 _)); have HGN := Lib.hid (show wr.heap.size ≤ w1.heap.size from HG1.out.size); have HGQ := Lib.hid (show w1.heap.size ≠ q from Nat.ne_of_gt HGS.out); clear hb2 hr2 hz2 HB1 HG1; generalize w1.heap.size = g at *)
        refine (number_R s1 4 q (by omega) (by omega) _ HB2.out).mono ?_
        rintro e w3 ⟨n1, rfl, hz, hX, hB, hg⟩
        have HX1 := Lib.hid hX
        have HB3 := Lib.hid hB
        have HG3 := Lib.hid (grown_trans HG2.out hg)
        have HR3 := Lib.hid ((hg.block g (row_lt HR2.out) (fun e => HGQ.out (Option.some.inj e))).trans HR2.out)
        obtain ⟨s2, he2⟩ : ∃ s9, (tkNum 4 s1).2 = s9 := ⟨_, rfl⟩
        rw [he2] at HB3 HX1
        have HE2 := Lib.hid he2
        have hu1 : IntKind.u32.wrap (n1 : Int) = n1 := Sp.u32_same hz
        clear hX hB hg he2 HB2 HG2 HR2
        clear hz
        go_wp2_with (refine wpList_store_part rfl 39 (.tmp 55) (.tmp 54) rfl g 1 (.int .u32 n1) #[.int .u32 n1] rfl rfl 55 (ecK ⟨X0, 0, Z32⟩).toArray (ecK ⟨X0, n1, Z32⟩).toArray HR3.out rfl infoU32 (fldK _ _ (by decide)) (one_all _ rfl) (by rfl) ?_; have HR4 := Lib.hid (setRow_heap' (cs := (ecK ⟨X0, n1, Z32⟩).toArray) HR3.out); have HB4 := Lib.hid (bag_far HB3.out HGQ.out ((ecK ⟨X0, n1, Z32⟩).toArray)); have HG4 := Lib.hid (far_row HG3.out HGN.out ((ecK ⟨X0, n1, Z32⟩).toArray)); generalize World.setRow _ _ _ = w4 at *; clear HR3 HB3 HG3)
        refine (hash_R s2 q _ HB4.out).mono ?_
        rintro e w5 ⟨l2x, rfl, hz, hX, hB, hg⟩
        have HX2 := Lib.hid hX
        have HB5 := Lib.hid hB
        have HG5 := Lib.hid (grown_trans HG4.out hg)
        have HR5 := Lib.hid ((hg.block g (row_lt HR4.out) (fun e => HGQ.out (Option.some.inj e))).trans HR4.out)
        obtain ⟨s3, he3⟩ : ∃ s9, (tkHash s2).2 = s9 := ⟨_, rfl⟩
        rw [he3] at HB5 HX2
        have HE3 := Lib.hid he3
        clear hX hB hg he3 HB4 HG4 HR4
        have HL := Lib.hid hz
        clear hz
        have HINV2 := Lib.hid (show InvB cK c (l2, false) (i + 1) (D ++ [⟨X0, n1, l2x⟩]) s3 by
          obtain ⟨he, hx⟩ := elK HE1.out HE2.out HE3.out HX0.out HX1.out HX2.out
          have h := HINV.out.go HSB.out hlt K_less (x := ⟨X0, n1, l2x⟩) hx
          rwa [he] at h)
        have HDL2 := Lib.hid (show (D ++ [(⟨X0, n1, l2x⟩ : Kd)]).length ≤ i + 1 by rw [List.length_append]; have := HDLI.out; simp; exact this)
        go_wp2_with (first
          | (refine wpList_store_part rfl 53 (.tmp 58) (.tmp 57) rfl g 2 (.agg (u8s l2x).toArray) (u8s l2x).toArray rfl rfl 55 (ecK ⟨X0, n1, Z32⟩).toArray (ecK ⟨X0, n1, l2x⟩).toArray HR5.out rfl (show (Tryz.prog.info? 53).map (·.size) = some (u8s l2x).toArray.size by rw [List.size_toArray, u8s_length, HL.out]; exact infoH32) (show 2 + (u8s l2x).toArray.size ≤ (ecK ⟨X0, n1, Z32⟩).toArray.size by rw [List.size_toArray, List.size_toArray, u8s_length, HL.out, ecK_len]; decide) (all_of_one (u8s_cell l2x)) (hashK _ _ HL.out) ?_; have HR6 := Lib.hid (setRow_heap' (cs := (ecK ⟨X0, n1, l2x⟩).toArray) HR5.out); have HB6 := Lib.hid (bag_far HB5.out HGQ.out ((ecK ⟨X0, n1, l2x⟩).toArray)); have HG6 := Lib.hid (far_row HG5.out HGN.out ((ecK ⟨X0, n1, l2x⟩).toArray)); generalize World.setRow _ _ _ = w6 at *; clear HR5 HB5 HG5; have cN : w6.cell? ⟨N, 2, none⟩ = some v1 := cell_of_row _ _ 2 _ _ _ (HST.out.took HB6.out HG6.out).row)
          | (refine wpList_load_row rfl 55 (.tmp 7) rfl g rfl 55 (ecK ⟨X0, n1, l2x⟩).toArray (0, 0) _ HR6.out Tryz.underlying55 rfl (infoKa _) ?_)
          | (refine wpList_plain rfl (fun K1 hK1 => op_oneK (.tmp 61) ⟨X0, n1, l2x⟩ rfl rfl (hK1 _ _ ?_)); have hal : Below w6.heap.size w6 (w6.alloc (.cells (ecK (⟨X0, n1, l2x⟩ : Kd)).toArray 55)) := (Below.refl _ _).alloc (Nat.le_refl _) _; have HS9 := Lib.hid ((HST.out.took HB6.out HG6.out).below hal); have HX9 := Lib.hid (heap_alloc_new w6 (.cells (ecK (⟨X0, n1, l2x⟩ : Kd)).toArray 55)); clear hal cN; generalize w6.alloc _ = w9 at *; generalize w6.heap.size = g9 at *)
          | (refine wpList_plain rfl (fun K1 hK1 => op_catK HS9.out.own ⟨X0, n1, l2x⟩ g9 1 HX9.out (by have := HDL.out; omega) (.tmp 60) (.tmp 62) rfl rfl rfl (fun v5 w5 hm5 hg5 hat5 => hK1 _ _ ?_)); obtain ⟨A5, n5, c5, rfl⟩ : ∃ A n c, v5 = .slice A n c := (by obtain ⟨A, c, h, _⟩ := hm5.ls ecK_len; exact ⟨A, _, c, h⟩); have HS5x := Lib.hid (HS9.out.put hm5 hg5); have hN5 := HS9.out.own.off HS9.out.row (by decide); have tN := (hg5.block N (row_lt HS9.out.row) (fun e => hN5 e.symm)).trans HS9.out.row; have c5N := cell_of_row w5 _ 2 _ _ _ tN; have f5N : w5.frozen? ⟨N, 2, none⟩ = false := frozen_of_row _ _ _ _ _ tN; clear hm5 hg5 hat5 hN5 tN))
        exact ⟨⟨i + 1, _, _, s3, by omega, by go_num, HS5x.out, HDL2.out, HINV2.out⟩, by simp [intOf] <;> omega⟩
      · have HDN := Lib.hid (show (tkMany cK c (l2, false)) = (D, (s.1, false)) from (HINV.out.1 HSB.out).done hlt)
        have HP := Lib.hid (show (tbN l0).2 = s.2 ∧ ((tbN l0).2 = false → (tbN l0).1 = ⟨kd, [], D, []⟩) by rw [HT.out, HDN.out, HSB.out]; exact ⟨rfl, fun _ => rfl⟩)
        have HONE := Lib.hid (show (#[.int .u8 kd, zS, v1, zS] : Array Value).all (·.oneCell') = true by rcases HST.out.own.1.2 with ⟨h, _⟩ | ⟨g, cap, cur, h, _⟩ <;> (subst h; exact four_cells _ _ _ _ rfl rfl rfl rfl))
        obtain ⟨hown, hrow, hbag, hbel⟩ := HST.out.out
        have HOWN := Lib.hid hown
        have HROW := Lib.hid hrow
        have HBAG := Lib.hid hbag
        have HBEL := Lib.hid hbel
        clear hown hrow hbag hbel
        go_wp2_with (first
          | (refine wpList_load_row rfl 27 (.tmp 3) rfl N rfl 27 #[.int .u8 kd, zS, v1, zS] (0, 0) _ HST.out.row Tryz.underlying27 rfl infoN4 ?_)
          | (refine wpList_store_row rfl 27 (.tmp 2) (.tmp 93) rfl r #[.int .u8 kd, zS, v1, zS] rfl rfl 27 #[.int .u8 0, zS, zS, zS] HST.out.res infoN4 rfl HONE.out ?_))
        refine bodyPost_ret (v := .agg #[.int .u8 kd, zS, v1, zS]) (results_cell_row rfl _ _ r 27 #[.int .u8 kd, zS, v1, zS] (0, 0) _ rfl HROW.out Tryz.underlying27 rfl infoN4) rfl ?_
        obtain ⟨S, b1, _, _⟩ := HBAG.out
        exact ⟨_, S, rfl, by rw [HP.out.1]; exact b1, HBEL.out, rfl, HONE.out, fun h => by rw [HP.out.2 h]; exact HOWN.out⟩
    · rw [hb] at c1
      have HSB := Lib.hid hb
      clear hb
      have HP := Lib.hid (show (tbN l0).2 = s.2 ∧ ((tbN l0).2 = false → (tbN l0).1 = ⟨kd, [], D, []⟩) by
        have h := HINV.out.2 HSB.out
        rw [HT.out, HSB.out]
        exact ⟨h, fun h2 => by rw [show (tkMany cK c (l2, false)).2.2 = false from h2] at h; cases h⟩)
      by_cases hlt : i < c
      · have HONE := Lib.hid (show (#[.int .u8 kd, zS, v1, zS] : Array Value).all (·.oneCell') = true by rcases HST.out.own.1.2 with ⟨h, _⟩ | ⟨g, cap, cur, h, _⟩ <;> (subst h; exact four_cells _ _ _ _ rfl rfl rfl rfl))
        obtain ⟨hown, hrow, hbag, hbel⟩ := HST.out.out
        have HOWN := Lib.hid hown
        have HROW := Lib.hid hrow
        have HBAG := Lib.hid hbag
        have HBEL := Lib.hid hbel
        clear hown hrow hbag hbel
        go_wp2_with (first
          | (refine wpList_load_row rfl 27 (.tmp 3) rfl N rfl 27 #[.int .u8 kd, zS, v1, zS] (0, 0) _ HST.out.row Tryz.underlying27 rfl infoN4 ?_)
          | (refine wpList_store_row rfl 27 (.tmp 2) (.tmp 93) rfl r #[.int .u8 kd, zS, v1, zS] rfl rfl 27 #[.int .u8 0, zS, zS, zS] HST.out.res infoN4 rfl HONE.out ?_))
        refine bodyPost_ret (v := .agg #[.int .u8 kd, zS, v1, zS]) (results_cell_row rfl _ _ r 27 #[.int .u8 kd, zS, v1, zS] (0, 0) _ rfl HROW.out Tryz.underlying27 rfl infoN4) rfl ?_
        obtain ⟨S, b1, _, _⟩ := HBAG.out
        exact ⟨_, S, rfl, by rw [HP.out.1]; exact b1, HBEL.out, rfl, HONE.out, fun h => by rw [HP.out.2 h]; exact HOWN.out⟩
      · have HONE := Lib.hid (show (#[.int .u8 kd, zS, v1, zS] : Array Value).all (·.oneCell') = true by rcases HST.out.own.1.2 with ⟨h, _⟩ | ⟨g, cap, cur, h, _⟩ <;> (subst h; exact four_cells _ _ _ _ rfl rfl rfl rfl))
        obtain ⟨hown, hrow, hbag, hbel⟩ := HST.out.out
        have HOWN := Lib.hid hown
        have HROW := Lib.hid hrow
        have HBAG := Lib.hid hbag
        have HBEL := Lib.hid hbel
        clear hown hrow hbag hbel
        go_wp2_with (first
          | (refine wpList_load_row rfl 27 (.tmp 3) rfl N rfl 27 #[.int .u8 kd, zS, v1, zS] (0, 0) _ HST.out.row Tryz.underlying27 rfl infoN4 ?_)
          | (refine wpList_store_row rfl 27 (.tmp 2) (.tmp 93) rfl r #[.int .u8 kd, zS, v1, zS] rfl rfl 27 #[.int .u8 0, zS, zS, zS] HST.out.res infoN4 rfl HONE.out ?_))
        refine bodyPost_ret (v := .agg #[.int .u8 kd, zS, v1, zS]) (results_cell_row rfl _ _ r 27 #[.int .u8 kd, zS, v1, zS] (0, 0) _ rfl HROW.out Tryz.underlying27 rfl infoN4) rfl ?_
        obtain ⟨S, b1, _, _⟩ := HBAG.out
        exact ⟨_, S, rfl, by rw [HP.out.1]; exact b1, HBEL.out, rfl, HONE.out, fun h => by rw [HP.out.2 h]; exact HOWN.out⟩
set_option maxRecDepth 100000 in
set_option maxHeartbeats 8000000 in
theorem takeV (w0 : World) (l0 : List UInt8) (h2 : 2 ≤ l0.length) (q : Nat) (hq0 : w0.heap.size ≤ q) (w : World) (hB0 : Below w0.heap.size w0 w) (h : BagR w q (l0, false)) (hkd : (tkNum 1 (l0, false)).1 = 3) :
    Calls Tryz.prog 23 #[.pointer (some ⟨q, 0, none⟩)] w (BtPost w0 q l0) := by
  obtain ⟨kd, ⟨l1, b1⟩, e1⟩ : ∃ V s2, tkNum 1 (l0, false) = (V, s2) := ⟨_, _, rfl⟩
  obtain ⟨c, ⟨l2, b2⟩, e2⟩ : ∃ V s2, tkNum 1 (l1, b1) = (V, s2) := ⟨_, _, rfl⟩
  have hkd8 := num_byte (l0, false)
  have hc8 := num_byte (l1, b1)
  have m1 := num1_more (s := (l0, false)) (by show 1 ≤ l0.length; omega)
  rw [e1] at m1 hkd8 hkd
  obtain ⟨rfl, rfl⟩ : l1 = l0.drop 1 ∧ b1 = false := by simpa using m1
  have m2 := num1_more (s := (l0.drop 1, false)) (by show 1 ≤ (l0.drop 1).length; rw [List.length_drop]; omega)
  rw [e2] at m2 hc8
  obtain ⟨hl2, rfl⟩ : l2 = (l0.drop 1).drop 1 ∧ b2 = false := by simpa using m2
  clear hl2 m1 m2
  generalize l0.drop 1 = l1 at *
  dsimp only at hkd8 hc8 hkd
  have HC1 := Lib.hid (show ∀ w, BagR w q (l0, false) → Calls Tryz.prog 48 #[.pointer (some ⟨q, 0, none⟩), .int .i64 1] w fun e w' => e = .returned (.int .u64 (kd : Nat)) ∧ BagR w' q (l1, false) ∧ w.grownBy w' (some q) from fun w h => (number_R (l0, false) 1 q (by omega) (by omega) w h).mono fun e w' hh => by
    obtain ⟨v, rfl, _, hv, hb, hg⟩ := hh
    rw [e1] at hv hb
    rw [hv rfl]
    exact ⟨rfl, hb, hg⟩)
  have HC2 := Lib.hid (show ∀ w, BagR w q (l1, false) → Calls Tryz.prog 48 #[.pointer (some ⟨q, 0, none⟩), .int .i64 1] w fun e w' => e = .returned (.int .u64 (c : Nat)) ∧ BagR w' q (l2, false) ∧ w.grownBy w' (some q) from fun w h => (number_R (l1, false) 1 q (by omega) (by omega) w h).mono fun e w' hh => by
    obtain ⟨v, rfl, _, hv, hb, hg⟩ := hh
    rw [e2] at hv hb
    rw [hv rfl]
    exact ⟨rfl, hb, hg⟩)
  have HT := Lib.hid (show tbN l0 = (⟨kd, [], [], (tkMany cV c (l2, false)).1⟩, (tkMany cV c (l2, false)).2.2) by
    unfold tbN
    rw [e1]
    dsimp only
    rw [e2]
    dsimp only
    rw [if_neg (by omega), if_neg (by omega), if_pos hkd])
  have HKD := Lib.hid hkd
  have eu : IntKind.u8.wrap (kd : Int) = (kd : Int) := IntWalk.u8_in _ (by omega)
  have eu2 : IntKind.i64.wrap (c : Int) = (c : Int) := IntWalk.i64_in _ ⟨by omega, by omega⟩
  have HC8 := Lib.hid hc8
  have hal : Below w.heap.size w (w.alloc (.cells #[.int .u8 0, zS, zS, zS] 27)) := (Below.refl _ _).alloc (Nat.le_refl _) _
  have HQL := Lib.hid (show q < w.heap.size from (by obtain ⟨S, h1, _⟩ := h; exact h1.lt))
  have HBG0 := Lib.hid (h.below hal)
  have HR0 := Lib.hid (heap_alloc_new w (.cells #[.int .u8 0, zS, zS, zS] 27))
  have HW0 := Lib.hid (hB0.trans (hal.mono hB0.size))
  have HQ0 := Lib.hid hq0
  clear hal h hB0 hq0 hkd e1 e2 h2 hkd8
  go_enter Tryz.func23, Tryz.ntmps23
  go_wp2_with fail
  generalize w.alloc _ = w1 at *
  generalize w.heap.size = r at *
  refine (HC1.out _ HBG0.out).mono ?_
  rintro e w2 ⟨rfl, hb, hg⟩
  have HB2 := Lib.hid hb
  have HR2 := Lib.hid ((hg.block r (row_lt HR0.out) (fun e => by have := Option.some.inj e; have := HQL.out; omega)).trans HR0.out)
  have HW2 := Lib.hid (HW0.out.grown hg HW0.out.size (fun k hk => by cases hk; exact HQ0.out))
  clear hb hg HBG0 HR0 HW0 HC1
  go_wp2_with fail
  have hal : Below w2.heap.size w2 (w2.alloc (.cells #[.int .u8 kd, zS, zS, zS] 27)) := (Below.refl _ _).alloc (Nat.le_refl _) _
  have HN3 := Lib.hid (heap_alloc_new w2 (.cells #[.int .u8 kd, zS, zS, zS] 27))
  have HB3 := Lib.hid (HB2.out.below hal)
  have HR3 := Lib.hid ((hal.block r (row_lt HR2.out)).trans HR2.out)
  have HW3 := Lib.hid (HW2.out.trans (hal.mono HW2.out.size))
  have HS3 := Lib.hid (show TbStV w0 q r w2.heap.size kd zS [] (l1, false) (w2.alloc (.cells #[.int .u8 kd, zS, zS, zS] 27)) from ⟨HB3.out, HN3.out, HR3.out, Mk.nil HW3.out, HQ0.out, HQL.out, row_lt HR2.out⟩)
  clear hal HN3 HB2 HR2 HW2 HR3 HW3
  generalize w2.alloc _ = w3 at *
  generalize w2.heap.size = N at *
  refine (HC2.out _ HB3.out).mono ?_
  rintro e w4 ⟨rfl, hb, hg⟩
  have HS4 := Lib.hid (HS3.out.took hb hg)
  clear hb hg HS3 HB3 HC2 eu
  go_wp2_with fail
  go_loopw [5] (fun iv wr => ∃ (i : Nat) (v1 : Value) (D : List Vo) (s : S), i ≤ c ∧ iv = .int .i64 i ∧ Hid (TbStV w0 q r N kd v1 D s wr) ∧ Hid (D.length ≤ i) ∧ Hid (InvB cV c (l2, false) i D s)) (fun iv _ => c - (intOf iv).toNat)
  case atStart => exact ⟨0, zS, [], (l2, false), Nat.zero_le _, by go_num, HS4.out, Nat.zero_le _, ⟨fun _ => TkInv.start, fun h => (by cases h)⟩⟩
  case round =>
    obtain ⟨i, v1, D, s, hi, rfl, hst, hdl, hinv⟩ := hrel
    obtain ⟨SB, hbag, hbz, hbe⟩ := (Hid.out hst).tk
    have c1 : wr.cell? ⟨q, 1, none⟩ = some (.bool s.2) := hbag.c1
    have HQW := Lib.hid hbag.lt
    clear hbag hbz hbe
    have k0 : wr.cell? ⟨N, 0, none⟩ = some (.int .u8 kd) := cell_of_row _ _ 0 _ _ _ (Hid.out hst).row
    have q1 : ((kd : Int) == 1) = false := by rw [beq_eq_false_iff_ne]; have := HKD.out; omega
    have q2 : ((kd : Int) == 2) = false := by rw [beq_eq_false_iff_ne]; have := HKD.out; omega
    have q3 : ((kd : Int) == 3) = true := by rw [HKD.out]; rfl
    have HINV := Lib.hid (Hid.out hinv)
    have HST := Lib.hid (Hid.out hst)
    have HDL := Lib.hid (show D.length ≤ 255 by have := Hid.out hdl; omega)
    have HDLI := Lib.hid (Hid.out hdl)
    clear hinv hst hdl
    cases hb : s.2
    · rw [hb] at c1
      have HSB := Lib.hid hb
      clear hb
      by_cases hlt : i < c
      · have HNL := Lib.hid (show N < wr.heap.size from row_lt HST.out.row)
        have HT0 := Lib.hid (fun W (hB : BagR W q s) => text_R s q W hB)
        go_wp2_with fail
        refine (HT0.out _ HST.out.tk).mono ?_
        rintro e w1 ⟨X0, rfl, hz, hX, hB, hg⟩
        have HX0 := Lib.hid hX
        have HB1 := Lib.hid hB
        have HG1 := Lib.hid hg
        obtain ⟨s1, he1⟩ : ∃ s1, (tkTxt s).2 = s1 := ⟨_, rfl⟩
        rw [he1] at HB1 HX0
        have HE1 := Lib.hid he1
        clear hz hX hB hg he1 HT0 c1 k0
        have HGS := Lib.hid (Nat.lt_of_lt_of_le HQW.out HG1.out.size)
        go_wp2_with (refine wpList_fresh rfl 59 (.tmp 8) (.tmp 69) rfl #[.string X0, .int .u8 0, .string ByteArray.empty, .int .u64 0, .int .u32 0, .int .u8 0, .int .u8 0, .int .u8 0, .int .u8 0, .int .u8 0, .int .u8 0, .int .u8 0, .int .u8 0, .int .u8 0, .int .u8 0, .int .u8 0, .int .u8 0, .int .u8 0, .int .u8 0, .int .u8 0, .int .u8 0, .int .u8 0, .int .u8 0, .int .u8 0, .int .u8 0, .int .u8 0, .int .u8 0, .int .u8 0, .int .u8 0, .int .u8 0, .int .u8 0, .int .u8 0, .int .u8 0, .int .u8 0, .int .u8 0, .int .u8 0, .int .u8 0] _ 59 rfl rfl (litV_inf X0) rfl (litV_one X0) ?_; intro w2 hb2 hr2 hz2; rw [rowV X0] at hr2; have HR2 := Lib.hid hr2; have HB2 := Lib.hid (HB1.out.below hb2); have HG2 := Lib.hid (grown_trans HG1.out (grown_of_below hb2 _)); have HGN := Lib.hid (show wr.heap.size ≤ w1.heap.size from HG1.out.size); have HGQ := Lib.hid (show w1.heap.size ≠ q from Nat.ne_of_gt HGS.out); clear hb2 hr2 hz2 HB1 HG1; generalize w1.heap.size = g at *)
        refine (text_R s1 q _ HB2.out).mono ?_
        rintro e w3 ⟨X1, rfl, hz, hX, hB, hg⟩
        have HX1 := Lib.hid hX
        have HB3 := Lib.hid hB
        have HG3 := Lib.hid (grown_trans HG2.out hg)
        have HR3 := Lib.hid ((hg.block g (row_lt HR2.out) (fun e => HGQ.out (Option.some.inj e))).trans HR2.out)
        obtain ⟨s2, he2⟩ : ∃ s9, (tkTxt s1).2 = s9 := ⟨_, rfl⟩
        rw [he2] at HB3 HX1
        have HE2 := Lib.hid he2
        clear hX hB hg he2 HB2 HG2 HR2
        clear hz
        go_wp2_with (refine wpList_store_part rfl 9 (.tmp 72) (.tmp 71) rfl g 2 (.string X1) #[.string X1] rfl rfl 59 (ecV ⟨X0, 0, ByteArray.empty, 0, 0, Z32⟩).toArray (ecV ⟨X0, 0, X1, 0, 0, Z32⟩).toArray HR3.out rfl infoS1 (fldV _ _ (by decide)) (one_all _ rfl) (by rfl) ?_; have HR4 := Lib.hid (setRow_heap' (cs := (ecV ⟨X0, 0, X1, 0, 0, Z32⟩).toArray) HR3.out); have HB4 := Lib.hid (bag_far HB3.out HGQ.out ((ecV ⟨X0, 0, X1, 0, 0, Z32⟩).toArray)); have HG4 := Lib.hid (far_row HG3.out HGN.out ((ecV ⟨X0, 0, X1, 0, 0, Z32⟩).toArray)); generalize World.setRow _ _ _ = w4 at *; clear HR3 HB3 HG3)
        refine (number_R s2 1 q (by omega) (by omega) _ HB4.out).mono ?_
        rintro e w5 ⟨n2, rfl, hz, hX, hB, hg⟩
        have HX2 := Lib.hid hX
        have HB5 := Lib.hid hB
        have HG5 := Lib.hid (grown_trans HG4.out hg)
        have HR5 := Lib.hid ((hg.block g (row_lt HR4.out) (fun e => HGQ.out (Option.some.inj e))).trans HR4.out)
        obtain ⟨s3, he3⟩ : ∃ s9, (tkNum 1 s2).2 = s9 := ⟨_, rfl⟩
        rw [he3] at HB5 HX2
        have HE3 := Lib.hid he3
        have hu2 : IntKind.u8.wrap (n2 : Int) = n2 := IntWalk.u8_in _ (by have h : n2 < 256 ^ 1 := hz; omega)
        clear hX hB hg he3 HB4 HG4 HR4
        clear hz
        go_wp2_with (refine wpList_store_part rfl 56 (.tmp 76) (.tmp 75) rfl g 1 (.int .u8 n2) #[.int .u8 n2] rfl rfl 59 (ecV ⟨X0, 0, X1, 0, 0, Z32⟩).toArray (ecV ⟨X0, n2, X1, 0, 0, Z32⟩).toArray HR5.out rfl infoVK (fldV _ _ (by decide)) (one_all _ rfl) (by rfl) ?_; have HR6 := Lib.hid (setRow_heap' (cs := (ecV ⟨X0, n2, X1, 0, 0, Z32⟩).toArray) HR5.out); have HB6 := Lib.hid (bag_far HB5.out HGQ.out ((ecV ⟨X0, n2, X1, 0, 0, Z32⟩).toArray)); have HG6 := Lib.hid (far_row HG5.out HGN.out ((ecV ⟨X0, n2, X1, 0, 0, Z32⟩).toArray)); generalize World.setRow _ _ _ = w6 at *; clear HR5 HB5 HG5)
        refine (number_R s3 8 q (by omega) (by omega) _ HB6.out).mono ?_
        rintro e w7 ⟨n3, rfl, hz, hX, hB, hg⟩
        have HX3 := Lib.hid hX
        have HB7 := Lib.hid hB
        have HG7 := Lib.hid (grown_trans HG6.out hg)
        have HR7 := Lib.hid ((hg.block g (row_lt HR6.out) (fun e => HGQ.out (Option.some.inj e))).trans HR6.out)
        obtain ⟨s4, he4⟩ : ∃ s9, (tkNum 8 s3).2 = s9 := ⟨_, rfl⟩
        rw [he4] at HB7 HX3
        have HE4 := Lib.hid he4
        clear hX hB hg he4 HB6 HG6 HR6
        clear hz
        go_wp2_with (refine wpList_store_part rfl 57 (.tmp 79) (.tmp 78) rfl g 3 (.int .u64 n3) #[.int .u64 n3] rfl rfl 59 (ecV ⟨X0, n2, X1, 0, 0, Z32⟩).toArray (ecV ⟨X0, n2, X1, n3, 0, Z32⟩).toArray HR7.out rfl infoU64 (fldV _ _ (by decide)) (one_all _ rfl) (by rfl) ?_; have HR8 := Lib.hid (setRow_heap' (cs := (ecV ⟨X0, n2, X1, n3, 0, Z32⟩).toArray) HR7.out); have HB8 := Lib.hid (bag_far HB7.out HGQ.out ((ecV ⟨X0, n2, X1, n3, 0, Z32⟩).toArray)); have HG8 := Lib.hid (far_row HG7.out HGN.out ((ecV ⟨X0, n2, X1, n3, 0, Z32⟩).toArray)); generalize World.setRow _ _ _ = w8 at *; clear HR7 HB7 HG7)
        refine (number_R s4 4 q (by omega) (by omega) _ HB8.out).mono ?_
        rintro e w9 ⟨n4, rfl, hz, hX, hB, hg⟩
        have HX4 := Lib.hid hX
        have HB9 := Lib.hid hB
        have HG9 := Lib.hid (grown_trans HG8.out hg)
        have HR9 := Lib.hid ((hg.block g (row_lt HR8.out) (fun e => HGQ.out (Option.some.inj e))).trans HR8.out)
        obtain ⟨s5, he5⟩ : ∃ s9, (tkNum 4 s4).2 = s9 := ⟨_, rfl⟩
        rw [he5] at HB9 HX4
        have HE5 := Lib.hid he5
        have hu4 : IntKind.u32.wrap (n4 : Int) = n4 := Sp.u32_same hz
        clear hX hB hg he5 HB8 HG8 HR8
        clear hz
        go_wp2_with (refine wpList_store_part rfl 39 (.tmp 83) (.tmp 82) rfl g 4 (.int .u32 n4) #[.int .u32 n4] rfl rfl 59 (ecV ⟨X0, n2, X1, n3, 0, Z32⟩).toArray (ecV ⟨X0, n2, X1, n3, n4, Z32⟩).toArray HR9.out rfl infoU32 (fldV _ _ (by decide)) (one_all _ rfl) (by rfl) ?_; have HR10 := Lib.hid (setRow_heap' (cs := (ecV ⟨X0, n2, X1, n3, n4, Z32⟩).toArray) HR9.out); have HB10 := Lib.hid (bag_far HB9.out HGQ.out ((ecV ⟨X0, n2, X1, n3, n4, Z32⟩).toArray)); have HG10 := Lib.hid (far_row HG9.out HGN.out ((ecV ⟨X0, n2, X1, n3, n4, Z32⟩).toArray)); generalize World.setRow _ _ _ = w10 at *; clear HR9 HB9 HG9)
        refine (hash_R s5 q _ HB10.out).mono ?_
        rintro e w11 ⟨l5, rfl, hz, hX, hB, hg⟩
        have HX5 := Lib.hid hX
        have HB11 := Lib.hid hB
        have HG11 := Lib.hid (grown_trans HG10.out hg)
        have HR11 := Lib.hid ((hg.block g (row_lt HR10.out) (fun e => HGQ.out (Option.some.inj e))).trans HR10.out)
        obtain ⟨s6, he6⟩ : ∃ s9, (tkHash s5).2 = s9 := ⟨_, rfl⟩
        rw [he6] at HB11 HX5
        have HE6 := Lib.hid he6
        clear hX hB hg he6 HB10 HG10 HR10
        have HL := Lib.hid hz
        clear hz
        have HINV2 := Lib.hid (show InvB cV c (l2, false) (i + 1) (D ++ [⟨X0, n2, X1, n3, n4, l5⟩]) s6 by
          obtain ⟨he, hx⟩ := elV HE1.out HE2.out HE3.out HE4.out HE5.out HE6.out HX0.out HX1.out HX2.out HX3.out HX4.out HX5.out
          have h := HINV.out.go HSB.out hlt V_less (x := ⟨X0, n2, X1, n3, n4, l5⟩) hx
          rwa [he] at h)
        have HDL2 := Lib.hid (show (D ++ [(⟨X0, n2, X1, n3, n4, l5⟩ : Vo)]).length ≤ i + 1 by rw [List.length_append]; have := HDLI.out; simp; exact this)
        go_wp2_with (first
          | (refine wpList_store_part rfl 53 (.tmp 86) (.tmp 85) rfl g 5 (.agg (u8s l5).toArray) (u8s l5).toArray rfl rfl 59 (ecV ⟨X0, n2, X1, n3, n4, Z32⟩).toArray (ecV ⟨X0, n2, X1, n3, n4, l5⟩).toArray HR11.out rfl (show (Tryz.prog.info? 53).map (·.size) = some (u8s l5).toArray.size by rw [List.size_toArray, u8s_length, HL.out]; exact infoH32) (show 5 + (u8s l5).toArray.size ≤ (ecV ⟨X0, n2, X1, n3, n4, Z32⟩).toArray.size by rw [List.size_toArray, List.size_toArray, u8s_length, HL.out, ecV_len]; decide) (all_of_one (u8s_cell l5)) (hashV _ _ HL.out) ?_; have HR12 := Lib.hid (setRow_heap' (cs := (ecV ⟨X0, n2, X1, n3, n4, l5⟩).toArray) HR11.out); have HB12 := Lib.hid (bag_far HB11.out HGQ.out ((ecV ⟨X0, n2, X1, n3, n4, l5⟩).toArray)); have HG12 := Lib.hid (far_row HG11.out HGN.out ((ecV ⟨X0, n2, X1, n3, n4, l5⟩).toArray)); generalize World.setRow _ _ _ = w12 at *; clear HR11 HB11 HG11; have cN : w12.cell? ⟨N, 3, none⟩ = some v1 := cell_of_row _ _ 3 _ _ _ (HST.out.took HB12.out HG12.out).row)
          | (refine wpList_load_row rfl 59 (.tmp 8) rfl g rfl 59 (ecV ⟨X0, n2, X1, n3, n4, l5⟩).toArray (0, 0) _ HR12.out Tryz.underlying59 rfl (infoVa _) ?_)
          | (refine wpList_plain rfl (fun K1 hK1 => op_oneV (.tmp 89) ⟨X0, n2, X1, n3, n4, l5⟩ rfl rfl (hK1 _ _ ?_)); have hal : Below w12.heap.size w12 (w12.alloc (.cells (ecV (⟨X0, n2, X1, n3, n4, l5⟩ : Vo)).toArray 59)) := (Below.refl _ _).alloc (Nat.le_refl _) _; have HS9 := Lib.hid ((HST.out.took HB12.out HG12.out).below hal); have HX9 := Lib.hid (heap_alloc_new w12 (.cells (ecV (⟨X0, n2, X1, n3, n4, l5⟩ : Vo)).toArray 59)); clear hal cN; generalize w12.alloc _ = w9 at *; generalize w12.heap.size = g9 at *)
          | (refine wpList_plain rfl (fun K1 hK1 => op_catV HS9.out.own ⟨X0, n2, X1, n3, n4, l5⟩ g9 1 HX9.out (by have := HDL.out; omega) (.tmp 88) (.tmp 90) rfl rfl rfl (fun v5 w5 hm5 hg5 hat5 => hK1 _ _ ?_)); obtain ⟨A5, n5, c5, rfl⟩ : ∃ A n c, v5 = .slice A n c := (by obtain ⟨A, c, h, _⟩ := hm5.ls ecV_len; exact ⟨A, _, c, h⟩); have HS5x := Lib.hid (HS9.out.put hm5 hg5); have hN5 := HS9.out.own.off HS9.out.row (by decide); have tN := (hg5.block N (row_lt HS9.out.row) (fun e => hN5 e.symm)).trans HS9.out.row; have c5N := cell_of_row w5 _ 3 _ _ _ tN; have f5N : w5.frozen? ⟨N, 3, none⟩ = false := frozen_of_row _ _ _ _ _ tN; clear hm5 hg5 hat5 hN5 tN))
        exact ⟨⟨i + 1, _, _, s6, by omega, by go_num, HS5x.out, HDL2.out, HINV2.out⟩, by simp [intOf] <;> omega⟩
      · have HDN := Lib.hid (show (tkMany cV c (l2, false)) = (D, (s.1, false)) from (HINV.out.1 HSB.out).done hlt)
        have HP := Lib.hid (show (tbN l0).2 = s.2 ∧ ((tbN l0).2 = false → (tbN l0).1 = ⟨kd, [], [], D⟩) by rw [HT.out, HDN.out, HSB.out]; exact ⟨rfl, fun _ => rfl⟩)
        have HONE := Lib.hid (show (#[.int .u8 kd, zS, zS, v1] : Array Value).all (·.oneCell') = true by rcases HST.out.own.1.2 with ⟨h, _⟩ | ⟨g, cap, cur, h, _⟩ <;> (subst h; exact four_cells _ _ _ _ rfl rfl rfl rfl))
        obtain ⟨hown, hrow, hbag, hbel⟩ := HST.out.out
        have HOWN := Lib.hid hown
        have HROW := Lib.hid hrow
        have HBAG := Lib.hid hbag
        have HBEL := Lib.hid hbel
        clear hown hrow hbag hbel
        go_wp2_with (first
          | (refine wpList_load_row rfl 27 (.tmp 3) rfl N rfl 27 #[.int .u8 kd, zS, zS, v1] (0, 0) _ HST.out.row Tryz.underlying27 rfl infoN4 ?_)
          | (refine wpList_store_row rfl 27 (.tmp 2) (.tmp 93) rfl r #[.int .u8 kd, zS, zS, v1] rfl rfl 27 #[.int .u8 0, zS, zS, zS] HST.out.res infoN4 rfl HONE.out ?_))
        refine bodyPost_ret (v := .agg #[.int .u8 kd, zS, zS, v1]) (results_cell_row rfl _ _ r 27 #[.int .u8 kd, zS, zS, v1] (0, 0) _ rfl HROW.out Tryz.underlying27 rfl infoN4) rfl ?_
        obtain ⟨S, b1, _, _⟩ := HBAG.out
        exact ⟨_, S, rfl, by rw [HP.out.1]; exact b1, HBEL.out, rfl, HONE.out, fun h => by rw [HP.out.2 h]; exact HOWN.out⟩
    · rw [hb] at c1
      have HSB := Lib.hid hb
      clear hb
      have HP := Lib.hid (show (tbN l0).2 = s.2 ∧ ((tbN l0).2 = false → (tbN l0).1 = ⟨kd, [], [], D⟩) by
        have h := HINV.out.2 HSB.out
        rw [HT.out, HSB.out]
        exact ⟨h, fun h2 => by rw [show (tkMany cV c (l2, false)).2.2 = false from h2] at h; cases h⟩)
      by_cases hlt : i < c
      · have HONE := Lib.hid (show (#[.int .u8 kd, zS, zS, v1] : Array Value).all (·.oneCell') = true by rcases HST.out.own.1.2 with ⟨h, _⟩ | ⟨g, cap, cur, h, _⟩ <;> (subst h; exact four_cells _ _ _ _ rfl rfl rfl rfl))
        obtain ⟨hown, hrow, hbag, hbel⟩ := HST.out.out
        have HOWN := Lib.hid hown
        have HROW := Lib.hid hrow
        have HBAG := Lib.hid hbag
        have HBEL := Lib.hid hbel
        clear hown hrow hbag hbel
        go_wp2_with (first
          | (refine wpList_load_row rfl 27 (.tmp 3) rfl N rfl 27 #[.int .u8 kd, zS, zS, v1] (0, 0) _ HST.out.row Tryz.underlying27 rfl infoN4 ?_)
          | (refine wpList_store_row rfl 27 (.tmp 2) (.tmp 93) rfl r #[.int .u8 kd, zS, zS, v1] rfl rfl 27 #[.int .u8 0, zS, zS, zS] HST.out.res infoN4 rfl HONE.out ?_))
        refine bodyPost_ret (v := .agg #[.int .u8 kd, zS, zS, v1]) (results_cell_row rfl _ _ r 27 #[.int .u8 kd, zS, zS, v1] (0, 0) _ rfl HROW.out Tryz.underlying27 rfl infoN4) rfl ?_
        obtain ⟨S, b1, _, _⟩ := HBAG.out
        exact ⟨_, S, rfl, by rw [HP.out.1]; exact b1, HBEL.out, rfl, HONE.out, fun h => by rw [HP.out.2 h]; exact HOWN.out⟩
      · have HONE := Lib.hid (show (#[.int .u8 kd, zS, zS, v1] : Array Value).all (·.oneCell') = true by rcases HST.out.own.1.2 with ⟨h, _⟩ | ⟨g, cap, cur, h, _⟩ <;> (subst h; exact four_cells _ _ _ _ rfl rfl rfl rfl))
        obtain ⟨hown, hrow, hbag, hbel⟩ := HST.out.out
        have HOWN := Lib.hid hown
        have HROW := Lib.hid hrow
        have HBAG := Lib.hid hbag
        have HBEL := Lib.hid hbel
        clear hown hrow hbag hbel
        go_wp2_with (first
          | (refine wpList_load_row rfl 27 (.tmp 3) rfl N rfl 27 #[.int .u8 kd, zS, zS, v1] (0, 0) _ HST.out.row Tryz.underlying27 rfl infoN4 ?_)
          | (refine wpList_store_row rfl 27 (.tmp 2) (.tmp 93) rfl r #[.int .u8 kd, zS, zS, v1] rfl rfl 27 #[.int .u8 0, zS, zS, zS] HST.out.res infoN4 rfl HONE.out ?_))
        refine bodyPost_ret (v := .agg #[.int .u8 kd, zS, zS, v1]) (results_cell_row rfl _ _ r 27 #[.int .u8 kd, zS, zS, v1] (0, 0) _ rfl HROW.out Tryz.underlying27 rfl infoN4) rfl ?_
        obtain ⟨S, b1, _, _⟩ := HBAG.out
        exact ⟨_, S, rfl, by rw [HP.out.1]; exact b1, HBEL.out, rfl, HONE.out, fun h => by rw [HP.out.2 h]; exact HOWN.out⟩
set_option maxRecDepth 100000 in
set_option maxHeartbeats 8000000 in
theorem takeZ (w0 : World) (l0 : List UInt8) (h2 : 2 ≤ l0.length) (q : Nat) (hq0 : w0.heap.size ≤ q) (w : World) (hB0 : Below w0.heap.size w0 w) (h : BagR w q (l0, false)) (hkd : (tkNum 1 (l0, false)).1 ≠ 1 ∧ (tkNum 1 (l0, false)).1 ≠ 2 ∧ (tkNum 1 (l0, false)).1 ≠ 3) :
    Calls Tryz.prog 23 #[.pointer (some ⟨q, 0, none⟩)] w (BtPost w0 q l0) := by
  obtain ⟨kd, ⟨l1, b1⟩, e1⟩ : ∃ V s2, tkNum 1 (l0, false) = (V, s2) := ⟨_, _, rfl⟩
  obtain ⟨c, ⟨l2, b2⟩, e2⟩ : ∃ V s2, tkNum 1 (l1, b1) = (V, s2) := ⟨_, _, rfl⟩
  have hkd8 := num_byte (l0, false)
  have hc8 := num_byte (l1, b1)
  have m1 := num1_more (s := (l0, false)) (by show 1 ≤ l0.length; omega)
  rw [e1] at m1 hkd8 hkd
  obtain ⟨rfl, rfl⟩ : l1 = l0.drop 1 ∧ b1 = false := by simpa using m1
  have m2 := num1_more (s := (l0.drop 1, false)) (by show 1 ≤ (l0.drop 1).length; rw [List.length_drop]; omega)
  rw [e2] at m2 hc8
  obtain ⟨hl2, rfl⟩ : l2 = (l0.drop 1).drop 1 ∧ b2 = false := by simpa using m2
  clear hl2 m1 m2
  generalize l0.drop 1 = l1 at *
  dsimp only at hkd8 hc8 hkd
  have HC1 := Lib.hid (show ∀ w, BagR w q (l0, false) → Calls Tryz.prog 48 #[.pointer (some ⟨q, 0, none⟩), .int .i64 1] w fun e w' => e = .returned (.int .u64 (kd : Nat)) ∧ BagR w' q (l1, false) ∧ w.grownBy w' (some q) from fun w h => (number_R (l0, false) 1 q (by omega) (by omega) w h).mono fun e w' hh => by
    obtain ⟨v, rfl, _, hv, hb, hg⟩ := hh
    rw [e1] at hv hb
    rw [hv rfl]
    exact ⟨rfl, hb, hg⟩)
  have HC2 := Lib.hid (show ∀ w, BagR w q (l1, false) → Calls Tryz.prog 48 #[.pointer (some ⟨q, 0, none⟩), .int .i64 1] w fun e w' => e = .returned (.int .u64 (c : Nat)) ∧ BagR w' q (l2, false) ∧ w.grownBy w' (some q) from fun w h => (number_R (l1, false) 1 q (by omega) (by omega) w h).mono fun e w' hh => by
    obtain ⟨v, rfl, _, hv, hb, hg⟩ := hh
    rw [e2] at hv hb
    rw [hv rfl]
    exact ⟨rfl, hb, hg⟩)
  have HT := Lib.hid (show tbN l0 = (⟨kd, [], [], []⟩, decide (0 < c)) by
    unfold tbN
    rw [e1]
    dsimp only
    rw [e2]
    dsimp only
    rw [if_neg hkd.1, if_neg hkd.2.1, if_neg hkd.2.2]
    simp)
  have HKD := Lib.hid hkd
  have eu : IntKind.u8.wrap (kd : Int) = (kd : Int) := IntWalk.u8_in _ (by omega)
  have eu2 : IntKind.i64.wrap (c : Int) = (c : Int) := IntWalk.i64_in _ ⟨by omega, by omega⟩
  have HC8 := Lib.hid hc8
  have hal : Below w.heap.size w (w.alloc (.cells #[.int .u8 0, zS, zS, zS] 27)) := (Below.refl _ _).alloc (Nat.le_refl _) _
  have HQL := Lib.hid (show q < w.heap.size from (by obtain ⟨S, h1, _⟩ := h; exact h1.lt))
  have HBG0 := Lib.hid (h.below hal)
  have HR0 := Lib.hid (heap_alloc_new w (.cells #[.int .u8 0, zS, zS, zS] 27))
  have HW0 := Lib.hid (hB0.trans (hal.mono hB0.size))
  have HQ0 := Lib.hid hq0
  clear hal h hB0 hq0 hkd e1 e2 h2 hkd8
  go_enter Tryz.func23, Tryz.ntmps23
  go_wp2_with fail
  generalize w.alloc _ = w1 at *
  generalize w.heap.size = r at *
  refine (HC1.out _ HBG0.out).mono ?_
  rintro e w2 ⟨rfl, hb, hg⟩
  have HB2 := Lib.hid hb
  have HR2 := Lib.hid ((hg.block r (row_lt HR0.out) (fun e => by have := Option.some.inj e; have := HQL.out; omega)).trans HR0.out)
  have HW2 := Lib.hid (HW0.out.grown hg HW0.out.size (fun k hk => by cases hk; exact HQ0.out))
  clear hb hg HBG0 HR0 HW0 HC1
  go_wp2_with fail
  have hal : Below w2.heap.size w2 (w2.alloc (.cells #[.int .u8 kd, zS, zS, zS] 27)) := (Below.refl _ _).alloc (Nat.le_refl _) _
  have HN3 := Lib.hid (heap_alloc_new w2 (.cells #[.int .u8 kd, zS, zS, zS] 27))
  have HB3 := Lib.hid (HB2.out.below hal)
  have HR3 := Lib.hid ((hal.block r (row_lt HR2.out)).trans HR2.out)
  have HW3 := Lib.hid (HW2.out.trans (hal.mono HW2.out.size))
  have HS3 := Lib.hid (show TbStI w0 q r w2.heap.size kd zS [] (l1, false) (w2.alloc (.cells #[.int .u8 kd, zS, zS, zS] 27)) from ⟨HB3.out, HN3.out, HR3.out, Mk.nil HW3.out, HQ0.out, HQL.out, row_lt HR2.out⟩)
  clear hal HN3 HB2 HR2 HW2 HR3 HW3
  generalize w2.alloc _ = w3 at *
  generalize w2.heap.size = N at *
  refine (HC2.out _ HB3.out).mono ?_
  rintro e w4 ⟨rfl, hb, hg⟩
  have HS4 := Lib.hid (HS3.out.took hb hg)
  clear hb hg HS3 HB3 HC2 eu
  go_wp2_with fail
  go_loopw [5] (fun iv wr => ∃ (i : Nat) (s : S), i ≤ c ∧ iv = .int .i64 i ∧ Hid (TbStI w0 q r N kd zS [] s wr) ∧ Hid (s.2 = decide (0 < i))) (fun iv _ => c - (intOf iv).toNat)
  case atStart => exact ⟨0, (l2, false), Nat.zero_le _, by go_num, HS4.out, rfl⟩
  case round =>
    obtain ⟨i, s, hi, rfl, hst, hsb⟩ := hrel
    obtain ⟨SB, hbag, hbz, hbe⟩ := (Hid.out hst).tk
    have c1 : wr.cell? ⟨q, 1, none⟩ = some (.bool s.2) := hbag.c1
    have f1 : wr.frozen? ⟨q, 1, none⟩ = false := hbag.fr 1
    have HB2 := Lib.hid (show BagR (wr.setCell ⟨q, 1, none⟩ (.bool true)) q (s.1, true) from ⟨SB, hbag.set1, hbz, fun h => (by cases h)⟩)
    clear hbag hbz hbe
    have k0 : wr.cell? ⟨N, 0, none⟩ = some (.int .u8 kd) := cell_of_row _ _ 0 _ _ _ (Hid.out hst).row
    have q1 : ((kd : Int) == 1) = false := by rw [beq_eq_false_iff_ne]; have := HKD.out; omega
    have q2 : ((kd : Int) == 2) = false := by rw [beq_eq_false_iff_ne]; have := HKD.out; omega
    have q3 : ((kd : Int) == 3) = false := by rw [beq_eq_false_iff_ne]; have := HKD.out; omega
    have HST := Lib.hid (Hid.out hst)
    have HSI := Lib.hid (Hid.out hsb)
    clear hst hsb
    by_cases h0 : 0 < i
    · rw [show s.2 = true by rw [HSI.out, decide_eq_true_iff]; exact h0] at c1
      clear f1 HB2
      have HP := Lib.hid (show (tbN l0).2 = s.2 ∧ ((tbN l0).2 = false → (tbN l0).1 = ⟨kd, [], [], []⟩) by rw [HT.out, HSI.out]; exact ⟨by rw [decide_eq_true h0, decide_eq_true (by omega)], fun _ => rfl⟩)
      by_cases hlt : i < c
      · have HONE := Lib.hid (show (#[.int .u8 kd, zS, zS, zS] : Array Value).all (·.oneCell') = true from four_cells _ _ _ _ rfl rfl rfl rfl)
        obtain ⟨hown, hrow, hbag, hbel⟩ := HST.out.out
        have HOWN := Lib.hid hown
        have HROW := Lib.hid hrow
        have HBAG := Lib.hid hbag
        have HBEL := Lib.hid hbel
        clear hown hrow hbag hbel
        go_wp2_with (first
          | (refine wpList_load_row rfl 27 (.tmp 3) rfl N rfl 27 #[.int .u8 kd, zS, zS, zS] (0, 0) _ HST.out.row Tryz.underlying27 rfl infoN4 ?_)
          | (refine wpList_store_row rfl 27 (.tmp 2) (.tmp 93) rfl r #[.int .u8 kd, zS, zS, zS] rfl rfl 27 #[.int .u8 0, zS, zS, zS] HST.out.res infoN4 rfl HONE.out ?_))
        refine bodyPost_ret (v := .agg #[.int .u8 kd, zS, zS, zS]) (results_cell_row rfl _ _ r 27 #[.int .u8 kd, zS, zS, zS] (0, 0) _ rfl HROW.out Tryz.underlying27 rfl infoN4) rfl ?_
        obtain ⟨S, b1, _, _⟩ := HBAG.out
        exact ⟨_, S, rfl, by rw [HP.out.1]; exact b1, HBEL.out, rfl, HONE.out, fun h => by rw [HP.out.2 h]; exact HOWN.out⟩
      · have HONE := Lib.hid (show (#[.int .u8 kd, zS, zS, zS] : Array Value).all (·.oneCell') = true from four_cells _ _ _ _ rfl rfl rfl rfl)
        obtain ⟨hown, hrow, hbag, hbel⟩ := HST.out.out
        have HOWN := Lib.hid hown
        have HROW := Lib.hid hrow
        have HBAG := Lib.hid hbag
        have HBEL := Lib.hid hbel
        clear hown hrow hbag hbel
        go_wp2_with (first
          | (refine wpList_load_row rfl 27 (.tmp 3) rfl N rfl 27 #[.int .u8 kd, zS, zS, zS] (0, 0) _ HST.out.row Tryz.underlying27 rfl infoN4 ?_)
          | (refine wpList_store_row rfl 27 (.tmp 2) (.tmp 93) rfl r #[.int .u8 kd, zS, zS, zS] rfl rfl 27 #[.int .u8 0, zS, zS, zS] HST.out.res infoN4 rfl HONE.out ?_))
        refine bodyPost_ret (v := .agg #[.int .u8 kd, zS, zS, zS]) (results_cell_row rfl _ _ r 27 #[.int .u8 kd, zS, zS, zS] (0, 0) _ rfl HROW.out Tryz.underlying27 rfl infoN4) rfl ?_
        obtain ⟨S, b1, _, _⟩ := HBAG.out
        exact ⟨_, S, rfl, by rw [HP.out.1]; exact b1, HBEL.out, rfl, HONE.out, fun h => by rw [HP.out.2 h]; exact HOWN.out⟩
    · obtain rfl : i = 0 := by omega
      rw [show s.2 = false by rw [HSI.out]; rfl] at c1
      by_cases hlt : 0 < c
      · have HS2 := Lib.hid (HST.out.took HB2.out (grown_setCell wr ⟨q, 1, none⟩ (.bool true)))
        clear HB2
        go_wp2_with fail
        exact ⟨⟨1, (s.1, true), by omega, by go_num, HS2.out, rfl⟩, by simp [intOf] <;> omega⟩
      · clear f1 HB2
        have HP := Lib.hid (show (tbN l0).2 = s.2 ∧ ((tbN l0).2 = false → (tbN l0).1 = ⟨kd, [], [], []⟩) by rw [HT.out, HSI.out]; exact ⟨by rw [decide_eq_false hlt, decide_eq_false (by omega)], fun _ => rfl⟩)
        have HONE := Lib.hid (show (#[.int .u8 kd, zS, zS, zS] : Array Value).all (·.oneCell') = true from four_cells _ _ _ _ rfl rfl rfl rfl)
        obtain ⟨hown, hrow, hbag, hbel⟩ := HST.out.out
        have HOWN := Lib.hid hown
        have HROW := Lib.hid hrow
        have HBAG := Lib.hid hbag
        have HBEL := Lib.hid hbel
        clear hown hrow hbag hbel
        go_wp2_with (first
          | (refine wpList_load_row rfl 27 (.tmp 3) rfl N rfl 27 #[.int .u8 kd, zS, zS, zS] (0, 0) _ HST.out.row Tryz.underlying27 rfl infoN4 ?_)
          | (refine wpList_store_row rfl 27 (.tmp 2) (.tmp 93) rfl r #[.int .u8 kd, zS, zS, zS] rfl rfl 27 #[.int .u8 0, zS, zS, zS] HST.out.res infoN4 rfl HONE.out ?_))
        refine bodyPost_ret (v := .agg #[.int .u8 kd, zS, zS, zS]) (results_cell_row rfl _ _ r 27 #[.int .u8 kd, zS, zS, zS] (0, 0) _ rfl HROW.out Tryz.underlying27 rfl infoN4) rfl ?_
        obtain ⟨S, b1, _, _⟩ := HBAG.out
        exact ⟨_, S, rfl, by rw [HP.out.1]; exact b1, HBEL.out, rfl, HONE.out, fun h => by rw [HP.out.2 h]; exact HOWN.out⟩
theorem take_R (w0 : World) (l0 : List UInt8) (h2 : 2 ≤ l0.length) (q : Nat) (hq0 : w0.heap.size ≤ q) (w : World) (hB0 : Below w0.heap.size w0 w) (h : BagR w q (l0, false)) :
    Calls Tryz.prog 23 #[.pointer (some ⟨q, 0, none⟩)] w (BtPost w0 q l0) := by
  by_cases h1 : (tkNum 1 (l0, false)).1 = 1
  · exact takeI w0 l0 h2 q hq0 w hB0 h h1
  · by_cases h3 : (tkNum 1 (l0, false)).1 = 2
    · exact takeK w0 l0 h2 q hq0 w hB0 h h3
    · by_cases h4 : (tkNum 1 (l0, false)).1 = 3
      · exact takeV w0 l0 h2 q hq0 w hB0 h h4
      · exact takeZ w0 l0 h2 q hq0 w hB0 h ⟨h1, h3, h4⟩
end Go.Proofs.YtnfcgifkghegjaaGreatDoor.Nr
