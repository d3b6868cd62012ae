/- The document's answers of layer 14 as plain data: its inodes are the program's. No walk of code here. -/
import Derived.Test.YtngcogjjcidccaaGreatInC
import Derived.Test.YtngcogjjcidccaaGreatKyE
import Derived.Test.YtngcogjjcidccaaGreatGb1
import Derived.Test.YtngcogjjcidccaaGreatGb2
import Derived.Test.YtngcogjjcidccaaGreatPaD
import Derived.Test.YtngcogjjcidccaaGreatItK
import Derived.BigQuiet
namespace Go.Proofs.YtngcogjjcidccaaGreat.Di
set_option linter.unusedVariables false
set_option linter.unusedSimpArgs false
open Ino
open It (Itm)
open Ph (nb)
variable {L : List Itm}
/-- an inode's key -/
def kI (i : Nat) : Ky := ⟨1, i, ⟨#[]⟩, 0⟩
theorem kI_lim {i : Nat} (hi : i < 4294967296) : (kI i).lim := ⟨show (1 : Nat) < 256 by decide, hi, show (0 : Nat) < 4294967296 by decide⟩
theorem kI_ok {i : Nat} (hi : 1 ≤ i) : okK (kI i) = true := okK_iff.2 ⟨hi, .inl ⟨rfl, rfl, rfl⟩⟩
theorem kI_no : okK (kI 0) = false := by decide
theorem kI_of {k : Ky} (h : okK k = true) (h1 : k.K = 1) : k = kI k.I ∧ 1 ≤ k.I := by
  obtain ⟨h2, h3⟩ := okK_iff.1 h
  rcases h3 with h3 | h3 | h3
  · refine ⟨?_, h2⟩
    obtain ⟨K, I, ⟨⟨N⟩⟩, C⟩ := k
    obtain ⟨h4, h5, h6⟩ := h3
    dsimp only at h4 h6
    subst h4 h6
    have h7 : N = [] := List.eq_nil_of_length_eq_zero h5
    subst h7
    rfl
  · rcases h3.1 with h | h <;> omega
  · omega
def hasK (K : ByteArray) (x : Itm) : Bool := x.k.toList == K.toList
theorem hasK_iff {K : ByteArray} {x : Itm} : hasK K x = true ↔ x.k = K := by
  unfold hasK
  rw [beq_iff_eq, ByteArray.toList_eq, ByteArray.toList_eq]
  constructor
  · intro h
    have h1 : x.k.data = K.data := Array.toList_inj.1 h
    calc x.k = ⟨x.k.data⟩ := rfl
      _ = ⟨K.data⟩ := by rw [h1]
      _ = K := rfl
  · rintro rfl; rfl
/-- what the document's inode answers -/
def inoR (L : List Itm) (i : Nat) : In × Bool := match L.find? (hasK (enK (kI i))) with
  | some x => (deI x.v, deIE x.v == 0)
  | none => (zIn, false)
theorem find_at {α : Type} {D : List α} {f : α → Bool} {k : Nat} {x : α} (h : ∀ y ∈ D.take k, f y = false) (hx : D[k]? = some x) (hf : f x = true) : D.find? f = some x := by
  have e : D = D.take k ++ x :: D.drop (k + 1) := by
    obtain ⟨h1, h2⟩ := List.getElem?_eq_some_iff.1 hx
    rw [← h2, ← List.drop_eq_getElem_cons h1, List.take_append_drop]
  rw [e, List.find?_append, List.find?_eq_none.2 (fun y hy => by rw [h y hy]; decide)]
  simp [hf]
theorem find_no {α : Type} {D : List α} {f : α → Bool} (h : ∀ y ∈ D.take D.length, f y = false) : D.find? f = none := by
  rw [List.take_length] at h
  exact List.find?_eq_none.2 (fun y hy => by rw [h y hy]; decide)
theorem none_snoc {α : Type} {D : List α} {f : α → Bool} {k : Nat} {x : α} (h : ∀ y ∈ D.take k, f y = false) (hx : D[k]? = some x) (hf : f x = false) : ∀ y ∈ D.take (k + 1), f y = false := by
  intro y hy
  rw [List.take_add_one, hx] at hy
  rcases List.mem_append.1 hy with hy | hy
  · exact h y hy
  · obtain rfl : y = x := by simpa using hy
    exact hf
theorem rt_key {x : Itm} (h : It.rt L = true) (hx : x ∈ L) : x.k.size ≠ 0 := by
  have := (rt_all h).1 x hx
  simp only [It.okI, It.okKey, Bool.and_eq_true, decide_eq_true_iff] at this
  exact this.1.1
/-- a key stands once -/
theorem key_once (h : It.rt L = true) {x y : Itm} (hx : x ∈ L) (hy : y ∈ L) (e : x.k = y.k) : x = y := by
  have hp := List.pairwise_iff_getElem.1 (rt_all h).2
  obtain ⟨i, hi, rfl⟩ := List.mem_iff_getElem.1 hx
  obtain ⟨j, hj, rfl⟩ := List.mem_iff_getElem.1 hy
  have hir : ∀ a : List UInt8, By.bl a a ≠ true := fun a h1 => by rw [By.bl_asymm a a h1] at h1; cases h1
  rcases Nat.lt_trichotomy i j with h1 | h1 | h1
  · have h2 := hp i j hi hj h1
    unfold It.key at h2
    rw [e] at h2
    exact absurd h2 (hir _)
  · subst h1; rfl
  · have h2 := hp j i hj hi h1
    unfold It.key at h2
    rw [e] at h2
    exact absurd h2 (hir _)
theorem inoR_at (h : It.rt L = true) {x : Itm} (hx : x ∈ L) {i : Nat} (hi : 1 ≤ i) (e : x.k = wrK (kI i)) : inoR L i = (deI x.v, deIE x.v == 0) := by
  have e2 : enK (kI i) = wrK (kI i) := (chK_yes (kI_ok hi)).2
  unfold inoR
  cases hf : L.find? (hasK (enK (kI i))) with
  | none => exact absurd (hasK_iff.2 (e.trans e2.symm)) (List.find?_eq_none.1 hf x hx)
  | some y =>
    have h1 := hasK_iff.1 (List.find?_some hf)
    obtain rfl := key_once h hx (List.mem_of_find?_eq_some hf) (by rw [e, h1, e2])
    rfl
theorem inoR_yes (h : It.rt L = true) {i : Nat} (hb : (inoR L i).2 = true) : 1 ≤ i ∧ ∃ x ∈ L, x.k = wrK (kI i) ∧ deIE x.v = 0 ∧ (inoR L i).1 = deI x.v := by
  unfold inoR at hb ⊢
  cases hf : L.find? (hasK (enK (kI i))) with
  | none => rw [hf] at hb; cases hb
  | some y =>
    rw [hf] at hb
    have h1 := hasK_iff.1 (List.find?_some hf)
    have hy := List.mem_of_find?_eq_some hf
    have hi : 1 ≤ i := by
      rcases Nat.eq_zero_or_pos i with h2 | h2
      · subst h2
        rw [(chK_no kI_no).2] at h1
        exact absurd (by rw [h1]; rfl) (rt_key h hy)
      · exact h2
    exact ⟨hi, y, hy, h1.trans (chK_yes (kI_ok hi)).2, by simpa using hb, rfl⟩
/-- where each item is right by itself, the document's inodes are the program's -/
theorem ino_R (h : It.rt L = true) (hok : ∀ x ∈ L, okX x = true) {i : Nat} (hi : i < 4294967296) : (vo (pts L)).ino i = if (inoR L i).2 = true then some (inoR L i).1 else none := by
  cases e : (vo (pts L)).ino i with
  | none =>
    split
    · rename_i hb
      obtain ⟨h1, x, hx, h2, h3, h4⟩ := inoR_yes h hb
      have hk : deK x.k = kI i := by rw [h2]; exact (deK_back (kI_lim hi) (kI_ok h1)).1
      have h5 := ino_is (L := pts L) (p := ptOf x) (List.mem_map.2 ⟨x, hx, rfl⟩) (by show (deK x.k).K = 1; rw [hk]; rfl)
      rw [show (ptOf x).k.I = i by show (deK x.k).I = i; rw [hk]; rfl, e] at h5
      cases h5
    · rfl
  | some n =>
    obtain ⟨p, hp, h1, h2, h3⟩ := ino_of _ e
    obtain ⟨x, hx, rfl⟩ := pts_mem hp
    obtain ⟨ho, hop⟩ := okX_1 (hok x hx)
    obtain ⟨hk1, hk2, hk3⟩ := deK_ok ho
    obtain ⟨hk4, hk5⟩ := kI_of hk1 h1
    have h2' : (deK x.k).I = i := h2
    rw [h2'] at hk4 hk5
    have e2 := inoR_at h hx hk5 (by rw [← hk4, hk2])
    have e3 : deIE x.v = 0 := okP_1 hop h1
    rw [e2, e3, h3]
    rfl
end Go.Proofs.YtngcogjjcidccaaGreat.Di
/- Contracts of the document's inode, named (layer 14). -/
namespace Go.Proofs.YtngcogjjcidccaaGreat.Di
set_option linter.unusedVariables false
set_option linter.unusedSimpArgs false
set_option maxRecDepth 100000
open Go.ChangeShapes Go.WideShapes Go.ChangeAt Go.RowKit
open BigFrame
open Ar Rg
open Ino
open It (Itm)
variable {w w' wr : World} {L : List Itm}
theorem size_empty {s : ByteArray} (h : s.size ≠ 0) : s.toList.isEmpty = false ∧ (s.toList == []) = false ∧ (s.toList != []) = true := by
  have h1 : s.toList ≠ [] := by
    intro e
    rw [ByteArray.toList_eq] at e
    have h3 : s.data.size = 0 := by rw [← Array.length_toList, e]; rfl
    exact h h3
  have h2 : (s.toList == []) = false := by rw [beq_eq_false_iff_ne]; exact h1
  refine ⟨?_, h2, by rw [bne, h2]; rfl⟩
  cases e : s.toList with
  | nil => exact absurd e h1
  | cons a l => rfl
theorem rowI {A : Option Addr} {B k : Nat} {x : Itm} (h : Ls It.enc 2 w B A L) (hx : L[k]? = some x) : ∃ b o, A = some ⟨b, o, none⟩ ∧ w.cell? ⟨b, o + k * 2, none⟩ = some (.string x.k) ∧ w.cell? ⟨b, o + k * 2 + 1, none⟩ = some (.string x.v) := by
  obtain ⟨b, o, e, _, hr⟩ := h k x hx
  exact ⟨b, o, e, hr 0 _ rfl, hr 1 _ rfl⟩
set_option maxHeartbeats 4000000 in
theorem inode_R {A : Option Addr} {n : Nat} (c i : Nat) (hi : i < 4294967296) (h : ItA w A n L) (hrt : It.rt L = true) :
    Calls Tryz.prog 20 #[.slice A n c, .int .u32 (i : Int)] w fun e w' => e = .returned (.tuple #[vI (inoR L i).1, .bool (inoR L i).2]) ∧ Below w.heap.size w w' := by
  have hal : Below w.heap.size w (w.alloc (.cells #[.int .u8 0, .int .u16 0, .int .u32 0, .int .u32 0, .string ⟨#[]⟩] 31)) := (Below.refl _ _).alloc (Nat.le_refl _) _
  have HB0 := Lib.hid hal
  have HR0 := Lib.hid (heap_alloc_new w (.cells #[.int .u8 0, .int .u16 0, .int .u32 0, .int .u32 0, .string ⟨#[]⟩] 31))
  have HZ := Lib.hid (show w.heap.size < (w.alloc (.cells #[.int .u8 0, .int .u16 0, .int .u32 0, .int .u32 0, .string ⟨#[]⟩] 31)).heap.size by simp)
  have HK := Lib.hid (fun (wx : World) => show Calls Tryz.prog 33 #[.agg #[.int .u8 1, .int .u32 (i : Int), .string ⟨#[]⟩, .int .u32 0]] wx (fun e w' => e = .returned (.tuple #[.string (enK (kI i)), .int .i64 (chK (kI i))]) ∧ Below wx.heap.size wx w') from refKey_in (kI i) (kI_lim hi) (show (⟨#[]⟩ : ByteArray).size ≤ maxLen from Nat.zero_le _) wx)
  have HS := Lib.hid (rt_sizes hrt)
  have HNE := Lib.hid (fun (x : Itm) (hx : x ∈ L) => rt_key hrt hx)
  have HN := Lib.hid h.1
  have HM := h.2.1
  have HL := Lib.hid h.2.2
  have HIN := Lib.hid (show inoR L i = match L.find? (hasK (enK (kI i))) with
    | some x => (deI x.v, deIE x.v == 0)
    | none => (zIn, false) from rfl)
  generalize inoR L i = res at *
  obtain ⟨nd, rb⟩ := res
  obtain ⟨K, hK⟩ : ∃ K, enK (kI i) = K := ⟨_, rfl⟩
  rw [hK] at HK HIN
  generalize chK (kI i) = kx at *
  clear h hal hK
  obtain ⟨nK, nM, nL, nS, nT⟩ := nd
  unfold vI
  dsimp only
  go_enter Tryz.func20, Tryz.ntmps20
  go_wp2_with (go_at_call 33; (with_reducible refine (HK.out _).mono ?_); rintro e w1 ⟨rfl, hb⟩; have HB1 := Lib.hid (HB0.out.trans (hb.mono HB0.out.size)); have HR1 := Lib.hid ((hb.block _ HZ.out).trans HR0.out); clear hb)
  go_loopw [20] (fun v wr => ∃ k : Nat, k ≤ n ∧ v = .int .i64 k ∧ Hid (∀ x ∈ L.take k, hasK K x = false) ∧ Hid (wr.heap[w.heap.size]? = some (.cells #[.int .u8 0, .int .u16 0, .int .u32 0, .int .u32 0, .string ⟨#[]⟩] 31 (0, 0))) ∧ Hid (Below w.heap.size w wr)) (fun v _ => n - (intOf v).toNat)
  case atStart => exact ⟨0, Nat.zero_le _, by go_num, fun x hx => (by cases hx), HR1.out, HB1.out⟩
  case round =>
    obtain ⟨k, hk, rfl, ha, hr, hb⟩ := hrel
    have HA := Lib.hid (Hid.out ha)
    have HR := Lib.hid (Hid.out hr)
    have HB := Lib.hid (Hid.out hb)
    clear ha hr hb
    by_cases hlt : k < n
    · obtain ⟨x, hx⟩ : ∃ x, L[k]? = some x := ⟨_, List.getElem?_eq_getElem (by rw [← HN.out]; exact hlt)⟩
      obtain ⟨b, o, hAe, c0, c1⟩ := rowI (HL.out.below HB.out) hx
      subst hAe
      have hmem := List.mem_of_getElem? hx
      have HV := Lib.hid (HS.out x hmem).2
      have ho : w.heap.size < wr.heap.size := (Array.getElem?_eq_some_iff.1 HR.out).1
      have hal : Below wr.heap.size wr (wr.alloc (.cells #[.string x.k, .string x.v] 72)) := (Below.refl _ _).alloc (Nat.le_refl _) _
      have HBa := Lib.hid (HB.out.trans (hal.mono HB.out.size))
      have HRa := Lib.hid ((hal.block _ ho).trans HR.out)
      have HLa := Lib.hid (Nat.lt_of_lt_of_le ho hal.size)
      have k0 : (wr.alloc (.cells #[.string x.k, .string x.v] 72)).cell? ⟨wr.heap.size, 0, none⟩ = some (.string x.k) := cell_of_row _ _ 0 _ _ _ (heap_alloc_new wr (.cells #[.string x.k, .string x.v] 72))
      have k1 : (wr.alloc (.cells #[.string x.k, .string x.v] 72)).cell? ⟨wr.heap.size, 1, none⟩ = some (.string x.v) := cell_of_row _ _ 1 _ _ _ (heap_alloc_new wr (.cells #[.string x.k, .string x.v] 72))
      cases hf : hasK K x
      · have hf2 : (x.k.toList == K.toList) = false := hf
        have HA2 := Lib.hid (none_snoc HA.out hx hf)
        clear hf hx hmem hal ho
        go_wp2_with fail
        exact ⟨⟨k + 1, by omega, by go_num, HA2.out, HRa.out, HBa.out⟩, by simp [intOf] <;> omega⟩
      · have hf2 : (x.k.toList == K.toList) = true := hf
        have hne : K.size ≠ 0 := by
          have e := HNE.out x hmem
          have h2 : x.k.toList = K.toList := by simpa using hf2
          intro h3
          rw [ByteArray.toList_eq, ByteArray.toList_eq] at h2
          have h4 : x.k.data.size = K.data.size := by rw [← Array.length_toList, h2, Array.length_toList]
          exact e (h4.trans h3)
        obtain ⟨n1, n2, n3⟩ := size_empty hne
        have hin := HIN.out
        rw [find_at HA.out hx hf] at hin
        dsimp only at hin
        have HD := Lib.hid (fun (wx : World) => refDecode_in x.v (Nat.le_trans HV.out (by unfold maxLen; omega)) wx)
        obtain ⟨hd1, hd2⟩ := Prod.mk.inj hin
        rw [← hd1] at HD
        subst hd2
        unfold vI at HD
        dsimp only at HD
        clear hf hx hmem hal ho hne hin hd1
        go_wp2_with (first
          | (go_at_call 38; (with_reducible refine (HD.out _).mono ?_); rintro e w5 ⟨rfl, hb⟩; have hb2 := hb.alloc hb.size (.cells #[.int .u8 nK, .int .u16 nM, .int .u32 nL, .int .u32 nS, .string nT] 31); have HBe := Lib.hid (HBa.out.trans (hb2.mono HBa.out.size)); have HRe := Lib.hid ((hb2.block _ HLa.out).trans HRa.out); have HNe := Lib.hid (heap_alloc_new w5 (.cells #[.int .u8 nK, .int .u16 nM, .int .u32 nL, .int .u32 nS, .string nT] 31)); clear hb hb2)
          | (refine wpList_load_row rfl 31 (.tmp 10) rfl w5.heap.size rfl 31 #[.int .u8 nK, .int .u16 nM, .int .u32 nL, .int .u32 nS, .string nT] (0, 0) _ HNe.out Tryz.underlying31 rfl (by kernel_rfl) ?_)
          | (refine wpList_store_row rfl 31 (.tmp 4) (.tmp 38) rfl w.heap.size #[.int .u8 nK, .int .u16 nM, .int .u32 nL, .int .u32 nS, .string nT] rfl rfl 31 #[.int .u8 0, .int .u16 0, .int .u32 0, .int .u32 0, .string ⟨#[]⟩] HRe.out (by kernel_rfl) rfl (row5 _ _ _ _ _) ?_))
        refine bodyPost_ret (v := .tuple #[.agg #[.int .u8 nK, .int .u16 nM, .int .u32 nL, .int .u32 nS, .string nT], .bool (deIE x.v == 0)]) (results_row2 rfl _ _ w.heap.size 31 #[.int .u8 nK, .int .u16 nM, .int .u32 nL, .int .u32 nS, .string nT] (0, 0) _ rfl (setRow_heap' HRe.out) Tryz.underlying31 rfl (by kernel_rfl) _ rfl) rfl ?_
        exact ⟨rfl, below_setRow HBe.out (Nat.le_refl _) _⟩
    · have hkn : k = n := by omega
      subst hkn
      have hin := HIN.out
      rw [find_no (by rw [← HN.out]; exact HA.out)] at hin
      obtain ⟨hd1, hd2⟩ := Prod.mk.inj hin
      obtain ⟨rfl, rfl, rfl, rfl, rfl⟩ := In.mk.inj hd1
      subst hd2
      clear hin hd1
      go_wp2_with (refine wpList_store_row rfl 31 (.tmp 4) (.tmp 42) rfl w.heap.size #[.int .u8 0, .int .u16 0, .int .u32 0, .int .u32 0, .string ⟨#[]⟩] rfl rfl 31 #[.int .u8 0, .int .u16 0, .int .u32 0, .int .u32 0, .string ⟨#[]⟩] HR.out (by kernel_rfl) rfl (row5 _ _ _ _ _) ?_)
      refine bodyPost_ret (v := .tuple #[.agg #[.int .u8 0, .int .u16 0, .int .u32 0, .int .u32 0, .string ⟨#[]⟩], .bool false]) (results_row2 rfl _ _ w.heap.size 31 #[.int .u8 0, .int .u16 0, .int .u32 0, .int .u32 0, .string ⟨#[]⟩] (0, 0) _ rfl (setRow_heap' HR.out) Tryz.underlying31 rfl (by kernel_rfl) _ rfl) rfl ?_
      exact ⟨rfl, below_setRow HB.out (Nat.le_refl _) _⟩
end Go.Proofs.YtngcogjjcidccaaGreat.Di
/- Contracts of the document's named, up (layer 14). -/
namespace Go.Proofs.YtngcogjjcidccaaGreat.Di
set_option linter.unusedVariables false
set_option linter.unusedSimpArgs false
set_option maxRecDepth 100000
open Go.ChangeShapes Go.WideShapes Go.ChangeAt Go.RowKit
open BigFrame
open Ar Rg
open Ino
open Pk (tN tR tE)
open It (Itm)
variable {w w' wr : World} {L : List Itm}
/-- what an entry names, as the document's named answers -/
def namR (v : ByteArray) : Nat := if tE v 4 = 0 ∧ tR v 4 = ByteArray.empty ∧ 2 ≤ numOf v then numOf v else 0
theorem namR_lt (v : ByteArray) : namR v < 4294967296 := by
  unfold namR
  split
  · exact numOf_lt v
  · decide
set_option maxHeartbeats 4000000 in
theorem named_R (x : Itm) (hv : x.v.size ≤ maxLen) : Calls Tryz.prog 26 #[.agg #[.string x.k, .string x.v]] w fun e w' => e = .returned (.int .u32 (namR x.v : Int)) ∧ Below w.heap.size w w' := by
  obtain ⟨xk, xv⟩ := x
  dsimp only at hv ⊢
  obtain ⟨m, hm⟩ : ∃ m, numOf xv = m := ⟨_, rfl⟩
  obtain ⟨r, hr⟩ : ∃ r, tR xv 4 = r := ⟨_, rfl⟩
  obtain ⟨y, hy⟩ : ∃ y, tE xv 4 = y := ⟨_, rfl⟩
  have HT := Lib.hid (fun (wx : World) => show Calls Tryz.prog 40 #[.string xv, .int .i64 4] wx (fun e w' => e = .returned (.tuple #[.int .u64 (m : Int), .string r, .int .i64 y]) ∧ Below wx.heap.size wx w') from refTakeNat xv 4 m r y hv (by decide) hm hr hy wx)
  have HNR := Lib.hid (show namR xv = if y = 0 ∧ r = ByteArray.empty ∧ 2 ≤ m then m else 0 by unfold namR; rw [hm, hr, hy])
  have hml : m < 4294967296 := by rw [← hm]; exact numOf_lt xv
  have C1 := box_cell w #[.string xk, .string xv] 72 1 rfl
  have HB0 := Lib.hid ((Below.refl w.heap.size w).alloc (Nat.le_refl _) (.cells #[.string xk, .string xv] 72))
  generalize namR xv = res at *
  clear hm hr hy hv
  by_cases hy0 : y = 0
  · subst hy0
    by_cases hr0 : r.size = 0
    · have hre : r = ⟨#[]⟩ := by
        obtain ⟨d⟩ := r
        congr
        exact Array.eq_empty_of_size_eq_zero hr0
      subst hre
      clear hr0
      by_cases hm2 : m < 2
      · have e1 : decide ((m : Int) < 2) = true := decide_eq_true (by omega)
        have e2 : res = 0 := by rw [HNR.out, if_neg (fun h => by have := h.2.2; omega)]
        subst e2
        clear hm2
        go_enter Tryz.func26, Tryz.ntmps26
        go_wp2_with (go_at_call 40; (with_reducible refine (HT.out _).mono ?_); rintro e w1 ⟨rfl, hb⟩; have HB1 := Lib.hid (HB0.out.trans (hb.mono HB0.out.size)); clear hb)
        go_ret
        exact ⟨rfl, HB1.out⟩
      · have e1 : decide ((m : Int) < 2) = false := decide_eq_false (by omega)
        have e2 : res = m := by rw [HNR.out, if_pos ⟨rfl, rfl, by omega⟩]
        subst e2
        have hwr : IntKind.u32.wrap (res : Int) = (res : Int) := by rw [IntKind.wrap_u32]; omega
        clear hm2
        go_enter Tryz.func26, Tryz.ntmps26
        go_wp2_with (go_at_call 40; (with_reducible refine (HT.out _).mono ?_); rintro e w1 ⟨rfl, hb⟩; have HB1 := Lib.hid (HB0.out.trans (hb.mono HB0.out.size)); clear hb)
        go_ret
        exact ⟨rfl, HB1.out⟩
    · obtain ⟨n1, n2, n3⟩ := size_empty hr0
      have e2 : res = 0 := by rw [HNR.out, if_neg (fun h => hr0 (by rw [h.2.1]; rfl))]
      subst e2
      clear hr0
      go_enter Tryz.func26, Tryz.ntmps26
      go_wp2_with (go_at_call 40; (with_reducible refine (HT.out _).mono ?_); rintro e w1 ⟨rfl, hb⟩; have HB1 := Lib.hid (HB0.out.trans (hb.mono HB0.out.size)); clear hb)
      go_ret
      exact ⟨rfl, HB1.out⟩
  · have e1 : (y != 0) = true := by rw [bne, eq0, decide_eq_false hy0]; rfl
    have e2 : res = 0 := by rw [HNR.out, if_neg (fun h => hy0 h.1)]
    subst e2
    clear hy0
    go_enter Tryz.func26, Tryz.ntmps26
    go_wp2_with (go_at_call 40; (with_reducible refine (HT.out _).mono ?_); rintro e w1 ⟨rfl, hb⟩; have HB1 := Lib.hid (HB0.out.trans (hb.mono HB0.out.size)); clear hb)
    go_ret
    exact ⟨rfl, HB1.out⟩
/-- how many entries name an inode, and the directory of the last one -/
def isU (i : Nat) (x : Itm) : Bool := decide ((deK x.k).K = 2) && decide (namR x.v = i)
def upF (i : Nat) (a : Nat × Nat) (x : Itm) : Nat × Nat := if isU i x then (a.1 + 1, (deK x.k).I) else a
def upR (L : List Itm) (i : Nat) : Nat × Nat := L.foldl (upF i) (0, 0)
theorem upR_snoc {k : Nat} {x : Itm} (h : L[k]? = some x) (i : Nat) : upR (L.take (k + 1)) i = upF i (upR (L.take k) i) x := by
  unfold upR
  rw [List.take_add_one, h, List.foldl_append]
  rfl
theorem wpList_load_row_g {P : Program} {ops : Array Oper} {rest : List Oper} {o : Oper} {a : Act} {w : World} {Q : Exit → Act → World → Prop} (ty : TypeId) (x : Operand) (ho : o.op = .load ty x) (hw : Region.wanted o (yielded ops a.tmps) = true)
    (g : Nat) (hx : a.eval x = .pointer (some ⟨g, 0, none⟩)) (t : TypeId) (cs : Array Value) (fr : Nat × Nat) (d : TypeDesc) (hg : w.heap[g]? = some (.cells cs t fr))
    (hu : P.underlying ty = some d) (hd : (match d with | .struct _ | .array _ _ => true | _ => false) = true) (hi : (P.info? ty).map (·.size) = some cs.size)
    (h : wpList P ops Q rest (a.put o.dst (.agg cs)) w) : wpList P ops Q (o :: rest) a w :=
  wpList_want hw fun _ hK => wp_load_row ty x ho g hx t cs fr d hg hu hd hi (hK _ _ h)
set_option maxHeartbeats 4000000 in
theorem up_R {A : Option Addr} {n : Nat} (c i : Nat) (hi : i < 4294967296) (h : ItA w A n L) (hrt : It.rt L = true) :
    Calls Tryz.prog 30 #[.slice A n c, .int .u32 (i : Int)] w fun e w' => e = .returned (.tuple #[.int .i64 ((upR L i).1 : Nat), .int .u32 ((upR L i).2 : Nat)]) ∧ Below w.heap.size w w' := by
  have HS := Lib.hid (rt_sizes hrt)
  have HN := Lib.hid h.1
  have HM := h.2.1
  have HL := Lib.hid h.2.2
  clear h
  go_enter Tryz.func30, Tryz.ntmps30
  go_wp2_with fail
  go_loopw [6, 7, 14] (fun v6 v7 v wr => ∃ k a d : Nat, k ≤ n ∧ a ≤ k ∧ v6 = .int .i64 a ∧ v7 = .int .u32 d ∧ v = .int .i64 k ∧ Hid (upR (L.take k) i = (a, d)) ∧ Hid (Below w.heap.size w wr)) (fun _ _ v _ => n - (intOf v).toNat)
  case atStart => exact ⟨0, 0, 0, Nat.zero_le _, Nat.zero_le _, by go_num, by go_num, by go_num, rfl, Below.refl _ _⟩
  case round =>
    obtain ⟨k, a, d, hk, ha, rfl, rfl, rfl, hu, hb⟩ := hrel
    have HU := Lib.hid (Hid.out hu)
    have HB := Lib.hid (Hid.out hb)
    clear hu hb
    by_cases hlt : k < n
    · obtain ⟨x, hx⟩ : ∃ x, L[k]? = some x := ⟨_, List.getElem?_eq_getElem (by rw [← HN.out]; exact hlt)⟩
      obtain ⟨b, o, hAe, c0, c1⟩ := rowI (HL.out.below HB.out) hx
      subst hAe
      have hmem := List.mem_of_getElem? hx
      have HV := Lib.hid (HS.out x hmem)
      have hal : Below wr.heap.size wr (wr.alloc (.cells #[.string x.k, .string x.v] 72)) := (Below.refl _ _).alloc (Nat.le_refl _) _
      have HBa := Lib.hid (HB.out.trans (hal.mono HB.out.size))
      have HQ := Lib.hid (heap_alloc_new wr (.cells #[.string x.k, .string x.v] 72))
      have HQL := Lib.hid (show wr.heap.size < (wr.alloc (.cells #[.string x.k, .string x.v] 72)).heap.size by simp)
      have k0 : (wr.alloc (.cells #[.string x.k, .string x.v] 72)).cell? ⟨wr.heap.size, 0, none⟩ = some (.string x.k) := cell_of_row _ _ 0 _ _ _ (heap_alloc_new wr (.cells #[.string x.k, .string x.v] 72))
      have HP := Lib.hid (fun (wx : World) => refParse_in x.k (Nat.le_trans HV.out.1 (by unfold maxLen; omega)) wx)
      have HND := Lib.hid (fun (wx : World) => named_R (w := wx) x (Nat.le_trans HV.out.2 (by unfold maxLen; omega)))
      have HSN := Lib.hid (upR_snoc hx i)
      rw [HU.out] at HSN
      obtain ⟨q, hq⟩ : ∃ q, deK x.k = q := ⟨_, rfl⟩
      have HUF := Lib.hid (show upF i (a, d) x = if (decide (q.K = 2) && decide (namR x.v = i)) = true then (a + 1, q.I) else (a, d) by unfold upF isU; rw [hq])
      rw [hq] at HP
      generalize deKE x.k = kx at *
      generalize namR x.v = nm at *
      obtain ⟨kK, kI, kN, kC⟩ := q
      unfold vK at HP
      dsimp only at HP HUF
      clear hx hmem hal hq
      by_cases hk2 : kK = 2
      · have e1 : ((kK : Int) == 2) = true := eqz2 (decide_eq_true hk2)
        by_cases hn2 : nm = i
        · have e2 : ((nm : Int) == (i : Int)) = true := eqz (decide_eq_true hn2)
          have HE := Lib.hid (HSN.out.trans (by rw [HUF.out, decide_eq_true hk2, decide_eq_true hn2]))
          clear hk2 hn2
          go_wp2_with (first
            | (go_at_call 25; (with_reducible refine (HP.out _).mono ?_); rintro e w1 ⟨rfl, hb⟩; have hb2 := hb.alloc hb.size (.cells #[.int .u8 kK, .int .u32 kI, .string kN, .int .u32 kC] 75); have HB1 := Lib.hid (HBa.out.trans (hb2.mono HBa.out.size)); have HQ1 := Lib.hid ((hb2.block _ HQL.out).trans HQ.out); have q0 : (w1.alloc (.cells #[.int .u8 kK, .int .u32 kI, .string kN, .int .u32 kC] 75)).cell? ⟨w1.heap.size, 0, none⟩ = some (.int .u8 (kK : Int)) := cell_of_row _ _ 0 _ _ _ (heap_alloc_new w1 (.cells #[.int .u8 kK, .int .u32 kI, .string kN, .int .u32 kC] 75)); have HK1 := Lib.hid (heap_alloc_new w1 (.cells #[.int .u8 kK, .int .u32 kI, .string kN, .int .u32 kC] 75)); have HKL := Lib.hid (show w1.heap.size < (w1.alloc (.cells #[.int .u8 kK, .int .u32 kI, .string kN, .int .u32 kC] 75)).heap.size by simp); clear hb hb2)
            | (refine wpList_load_row_g 72 (.tmp 9) rfl (by rfl) wr.heap.size rfl 72 #[.string x.k, .string x.v] (0, 0) _ HQ1.out Tryz.underlying72 rfl (by kernel_rfl) ?_)
            | (go_at_call 26; (with_reducible refine (HND.out _).mono ?_); rintro e w2 ⟨rfl, hb⟩; have HB2 := Lib.hid (HB1.out.trans (hb.mono HB1.out.size)); have p1 : w2.cell? ⟨w1.heap.size, 1, none⟩ = some (.int .u32 (kI : Int)) := cell_of_row _ _ 1 _ _ _ ((hb.block _ HKL.out).trans HK1.out); clear hb))
          exact ⟨⟨k + 1, a + 1, kI, by omega, by omega, by go_num, by go_num, by go_num, HE.out, HB2.out⟩, by simp [intOf] <;> omega⟩
        · have e2 : ((nm : Int) == (i : Int)) = false := eqz (decide_eq_false hn2)
          have HE := Lib.hid (HSN.out.trans (by rw [HUF.out, decide_eq_false hn2, Bool.and_false]))
          clear hk2 hn2
          go_wp2_with (first
            | (go_at_call 25; (with_reducible refine (HP.out _).mono ?_); rintro e w1 ⟨rfl, hb⟩; have hb2 := hb.alloc hb.size (.cells #[.int .u8 kK, .int .u32 kI, .string kN, .int .u32 kC] 75); have HB1 := Lib.hid (HBa.out.trans (hb2.mono HBa.out.size)); have HQ1 := Lib.hid ((hb2.block _ HQL.out).trans HQ.out); have q0 : (w1.alloc (.cells #[.int .u8 kK, .int .u32 kI, .string kN, .int .u32 kC] 75)).cell? ⟨w1.heap.size, 0, none⟩ = some (.int .u8 (kK : Int)) := cell_of_row _ _ 0 _ _ _ (heap_alloc_new w1 (.cells #[.int .u8 kK, .int .u32 kI, .string kN, .int .u32 kC] 75)); clear hb hb2)
            | (refine wpList_load_row_g 72 (.tmp 9) rfl (by rfl) wr.heap.size rfl 72 #[.string x.k, .string x.v] (0, 0) _ HQ1.out Tryz.underlying72 rfl (by kernel_rfl) ?_)
            | (go_at_call 26; (with_reducible refine (HND.out _).mono ?_); rintro e w2 ⟨rfl, hb⟩; have HB2 := Lib.hid (HB1.out.trans (hb.mono HB1.out.size)); clear hb))
          exact ⟨⟨k + 1, a, d, by omega, by omega, by go_num, by go_num, by go_num, HE.out, HB2.out⟩, by simp [intOf] <;> omega⟩
      · have e1 : ((kK : Int) == 2) = false := eqz2 (decide_eq_false hk2)
        have HE := Lib.hid (HSN.out.trans (by rw [HUF.out, decide_eq_false hk2, Bool.false_and]))
        clear hk2
        go_wp2_with (first
          | (go_at_call 25; (with_reducible refine (HP.out _).mono ?_); rintro e w1 ⟨rfl, hb⟩; have hb2 := hb.alloc hb.size (.cells #[.int .u8 kK, .int .u32 kI, .string kN, .int .u32 kC] 75); have HB1 := Lib.hid (HBa.out.trans (hb2.mono HBa.out.size)); have q0 : (w1.alloc (.cells #[.int .u8 kK, .int .u32 kI, .string kN, .int .u32 kC] 75)).cell? ⟨w1.heap.size, 0, none⟩ = some (.int .u8 (kK : Int)) := cell_of_row _ _ 0 _ _ _ (heap_alloc_new w1 (.cells #[.int .u8 kK, .int .u32 kI, .string kN, .int .u32 kC] 75)); clear hb hb2))
        exact ⟨⟨k + 1, a, d, by omega, by omega, by go_num, by go_num, by go_num, HE.out, HB1.out⟩, by simp [intOf] <;> omega⟩
    · have hkn : k = L.length := by have := HN.out; omega
      subst hkn
      have hu := HU.out
      rw [List.take_length] at hu
      go_wp2_with fail
      go_ret2
      exact ⟨by rw [hu]; rfl, HB.out⟩
end Go.Proofs.YtngcogjjcidccaaGreat.Di
/- Contract of the document's one (layer 14). -/
namespace Go.Proofs.YtngcogjjcidccaaGreat.Di
set_option linter.unusedVariables false
set_option linter.unusedSimpArgs false
set_option maxRecDepth 100000
open Go.ChangeShapes Go.WideShapes Go.ChangeAt Go.RowKit
open BigFrame
open Ar Rg
open Ino
open Pk (tN tR tE)
open It (Itm)
open Ph (byte_ne byte_eq)
variable {w w' wr : World} {L : List Itm}
/-- what the document's one answers -/
def oneR (L : List Itm) (x : Itm) : Bool := if deKE x.k ≠ 0 then false else
  if (deK x.k).K = 2 then (inoR L (deK x.k).I).2 && (decide ((inoR L (deK x.k).I).1.K = 1) && (inoR L (namR x.v)).2)
  else if (deK x.k).K = 3 then (inoR L (deK x.k).I).2 && (decide ((inoR L (deK x.k).I).1.K = 2) && (decide (x.v.size ≠ 0) && (decide (x.v.size ≤ 128) && (!lz x.v && decide ((deK x.k).C * 128 + x.v.size ≤ (inoR L (deK x.k).I).1.S)))))
  else if (deK x.k).K = 4 then (inoR L (deK x.k).I).2 && decide (x.v.size ≤ 64)
  else (inoR L (deK x.k).I).2
theorem inoR_lim (h : It.rt L = true) (i : Nat) : (inoR L i).1.lim := by
  unfold inoR
  cases hf : L.find? (hasK (enK (kI i))) with
  | none => exact ⟨show (0 : Nat) < 256 by decide, show (0 : Nat) < 65536 by decide, show (0 : Nat) < 4294967296 by decide, show (0 : Nat) < 4294967296 by decide⟩
  | some y => exact (deI_lim y.v (Nat.le_trans (rt_sizes h y (List.mem_of_find?_eq_some hf)).2 (by unfold maxLen; omega))).1
theorem lz_at {v : ByteArray} {z : Nat} (hz : v.size = z + 1) (hl : z < v.size) : lz v = (v[z] == 0) := by
  have e : (v.extract (v.size - 1) v.size).toList = [v[z]] := by
    rw [ByteArray.toList_eq, ByteArray.data_extract, Array.toList_extract, List.extract_eq_take_drop, hz]
    have h1 : z < v.data.toList.length := by rw [Array.length_toList]; exact hl
    rw [show z + 1 - (z + 1 - 1) = 1 by omega, show z + 1 - 1 = z by omega, List.drop_eq_getElem_cons h1]
    rfl
  unfold lz
  rw [e, Bool.eq_iff_iff, beq_iff_eq, beq_iff_eq]
  constructor
  · intro h; injection h
  · intro h; rw [h]
set_option maxHeartbeats 8000000 in
theorem one_R {A : Option Addr} {n : Nat} (c : Nat) (x : Itm) (h : ItA w A n L) (hrt : It.rt L = true) (hs : x.k.size ≤ 48 ∧ x.v.size ≤ 160) :
    Calls Tryz.prog 29 #[.slice A n c, .agg #[.string x.k, .string x.v]] w fun e w' => e = .returned (.bool (oneR L x)) ∧ Below w.heap.size w w' := by
  have HB0 := Lib.hid ((Below.refl w.heap.size w).alloc (Nat.le_refl _) (.cells #[.string x.k, .string x.v] 72))
  have HX0 := Lib.hid (heap_alloc_new w (.cells #[.string x.k, .string x.v] 72))
  have HZ := Lib.hid (show w.heap.size < (w.alloc (.cells #[.string x.k, .string x.v] 72)).heap.size by simp)
  have b0 : (w.alloc (.cells #[.string x.k, .string x.v] 72)).cell? ⟨w.heap.size, 0, none⟩ = some (.string x.k) := cell_of_row _ _ 0 _ _ _ (heap_alloc_new w _)
  have HP := Lib.hid (fun (wx : World) => refParse_in x.k (Nat.le_trans hs.1 (by unfold maxLen; omega)) wx)
  have HND := Lib.hid (fun (wx : World) => named_R (w := wx) x (Nat.le_trans hs.2 (by unfold maxLen; omega)))
  have hkl : deKE x.k = 0 → okK (deK x.k) = true ∧ (deK x.k).lim := fun h0 => ⟨(deK_ok h0).1, (deK_ok h0).2.2⟩
  have HLE := Lib.hid (fun (wx : World) (hb : Below w.heap.size w wx) => hb.size)
  have HO := Lib.hid (show oneR L x = if deKE x.k ≠ 0 then false else
    if (deK x.k).K = 2 then (inoR L (deK x.k).I).2 && (decide ((inoR L (deK x.k).I).1.K = 1) && (inoR L (namR x.v)).2)
    else if (deK x.k).K = 3 then (inoR L (deK x.k).I).2 && (decide ((inoR L (deK x.k).I).1.K = 2) && (decide (x.v.size ≠ 0) && (decide (x.v.size ≤ 128) && (!lz x.v && decide ((deK x.k).C * 128 + x.v.size ≤ (inoR L (deK x.k).I).1.S)))))
    else if (deK x.k).K = 4 then (inoR L (deK x.k).I).2 && decide (x.v.size ≤ 64)
    else (inoR L (deK x.k).I).2 from rfl)
  generalize oneR L x = res at *
  have hvs := hs.2
  obtain ⟨y, hy⟩ : ∃ y, deKE x.k = y := ⟨_, rfl⟩
  obtain ⟨q, hq⟩ : ∃ q, deK x.k = q := ⟨_, rfl⟩
  rw [hy, hq] at HP HO hkl
  obtain ⟨kK, kI, kN, kC⟩ := q
  obtain ⟨xk, xv⟩ := x
  unfold vK at HP
  dsimp only at HP HO HND HB0 HX0 HZ b0 hkl hvs ⊢
  clear hy hq hs
  by_cases hy0 : y ≠ 0
  · have e1 : (y != 0) = true := by rw [bne, eq0, decide_eq_false hy0]; rfl
    rw [if_pos hy0] at HO
    clear hy0
    go_enter Tryz.func29, Tryz.ntmps29
    go_wp2_with (go_at_call 25; (with_reducible refine (HP.out _).mono ?_); rintro e w1 ⟨rfl, hb⟩; have hb2 := hb.alloc hb.size (.cells #[.int .u8 kK, .int .u32 kI, .string kN, .int .u32 kC] 75); have HB1 := Lib.hid (HB0.out.trans (hb2.mono HB0.out.size)); clear hb hb2)
    go_ret
    exact ⟨by rw [HO.out]; rfl, HB1.out⟩
  replace hy0 := Decidable.not_not.1 hy0
  subst hy0
  obtain ⟨hok, hkI⟩ := hkl rfl
  have hC : kK = 3 → kC < 512 := fun h3 => by
    rcases (okK_iff.1 hok).2 with h | h | h
    · have := h.1; dsimp only at this; omega
    · rcases h.1 with h | h <;> (dsimp only at h; omega)
    · exact h.2.2
  replace hkI : kI < 4294967296 := hkI.2.1
  have HIN := Lib.hid (fun (wx : World) (hb : Below w.heap.size w wx) => inode_R (w := wx) c kI hkI (h.go hb) hrt)
  have HIM := Lib.hid (fun (wx : World) (hb : Below w.heap.size w wx) => inode_R (w := wx) c (namR xv) (namR_lt xv) (h.go hb) hrt)
  have hnS := (inoR_lim hrt kI).2.2.2
  generalize namR xv = nm at *
  obtain ⟨pn, hpn⟩ : ∃ pn, inoR L kI = pn := ⟨_, rfl⟩
  obtain ⟨pm, hpm⟩ : ∃ pm, inoR L nm = pm := ⟨_, rfl⟩
  rw [hpn] at HIN HO hnS
  rw [hpm] at HIM HO
  obtain ⟨⟨nK, nM, nL, nS, nT⟩, nb⟩ := pn
  obtain ⟨⟨mK, mM, mL, mS, mT⟩, mb⟩ := pm
  unfold vI at HIN HIM
  dsimp only at HIN HIM HO hnS
  clear hpn hpm h hrt hok hkI hkl
  rw [if_neg (fun h => h rfl)] at HO
  by_cases hk2 : kK = 2
  · have e1 : ((kK : Int) == 2) = true := eqz2 (decide_eq_true hk2)
    rw [if_pos hk2] at HO
    clear hk2 hC
    cases nb
    · go_enter Tryz.func29, Tryz.ntmps29
      go_wp2_with (first
        | (go_at_call 25; (with_reducible refine (HP.out _).mono ?_); rintro e w1 ⟨rfl, hb⟩; have hb2 := hb.alloc hb.size (.cells #[.int .u8 kK, .int .u32 kI, .string kN, .int .u32 kC] 75); have HB1 := Lib.hid (HB0.out.trans (hb2.mono HB0.out.size)); have HX1 := Lib.hid ((hb2.block _ HZ.out).trans HX0.out); have p1 : (w1.alloc (.cells #[.int .u8 kK, .int .u32 kI, .string kN, .int .u32 kC] 75)).cell? ⟨w1.heap.size, 1, none⟩ = some (.int .u32 (kI : Int)) := cell_of_row _ _ 1 _ _ _ (heap_alloc_new w1 (.cells #[.int .u8 kK, .int .u32 kI, .string kN, .int .u32 kC] 75)); have HK1 := Lib.hid (heap_alloc_new w1 (.cells #[.int .u8 kK, .int .u32 kI, .string kN, .int .u32 kC] 75)); have HKL := Lib.hid (show w1.heap.size < (w1.alloc (.cells #[.int .u8 kK, .int .u32 kI, .string kN, .int .u32 kC] 75)).heap.size by simp); have HCI := Lib.hid (HIN.out _ HB1.out); have HXL := Lib.hid (Nat.lt_of_lt_of_le HZ.out hb2.size); clear hb hb2)
        | (go_at_call 20; (with_reducible refine HCI.out.mono ?_); rintro e w2 ⟨rfl, hb⟩; have hb2 := hb.alloc hb.size (.cells #[.int .u8 nK, .int .u16 nM, .int .u32 nL, .int .u32 nS, .string nT] 31); have HB2 := Lib.hid (HB1.out.trans (hb2.mono HB1.out.size)); have r0 := (hb2.block _ HKL.out).trans HK1.out; have q0 : (w2.alloc (.cells #[.int .u8 nK, .int .u16 nM, .int .u32 nL, .int .u32 nS, .string nT] 31)).cell? ⟨w1.heap.size, 0, none⟩ = some (.int .u8 (kK : Int)) := cell_of_row _ _ 0 _ _ _ r0; have q3 : (w2.alloc (.cells #[.int .u8 nK, .int .u16 nM, .int .u32 nL, .int .u32 nS, .string nT] 31)).cell? ⟨w1.heap.size, 3, none⟩ = some (.int .u32 (kC : Int)) := cell_of_row _ _ 3 _ _ _ r0; have r1 := (hb2.block _ HXL.out).trans HX1.out; have HX2 := Lib.hid r1; have v1 : (w2.alloc (.cells #[.int .u8 nK, .int .u16 nM, .int .u32 nL, .int .u32 nS, .string nT] 31)).cell? ⟨w.heap.size, 1, none⟩ = some (.string xv) := cell_of_row _ _ 1 _ _ _ r1; have HN2 := Lib.hid (heap_alloc_new w2 (.cells #[.int .u8 nK, .int .u16 nM, .int .u32 nL, .int .u32 nS, .string nT] 31)); have n0 : (w2.alloc (.cells #[.int .u8 nK, .int .u16 nM, .int .u32 nL, .int .u32 nS, .string nT] 31)).cell? ⟨w2.heap.size, 0, none⟩ = some (.int .u8 (nK : Int)) := cell_of_row _ _ 0 _ _ _ (heap_alloc_new w2 (.cells #[.int .u8 nK, .int .u16 nM, .int .u32 nL, .int .u32 nS, .string nT] 31)); have n3 : (w2.alloc (.cells #[.int .u8 nK, .int .u16 nM, .int .u32 nL, .int .u32 nS, .string nT] 31)).cell? ⟨w2.heap.size, 3, none⟩ = some (.int .u32 (nS : Int)) := cell_of_row _ _ 3 _ _ _ (heap_alloc_new w2 (.cells #[.int .u8 nK, .int .u16 nM, .int .u32 nL, .int .u32 nS, .string nT] 31)); have HNL := Lib.hid (show w2.heap.size < (w2.alloc (.cells #[.int .u8 nK, .int .u16 nM, .int .u32 nL, .int .u32 nS, .string nT] 31)).heap.size by simp); clear hb hb2 r0 r1)
        | (refine wpList_load_row rfl 72 (.tmp 3) rfl w.heap.size rfl 72 #[.string xk, .string xv] (0, 0) _ HX2.out Tryz.underlying72 rfl (by kernel_rfl) ?_)
        | (go_at_call 26; (with_reducible refine (HND.out _).mono ?_); rintro e w3 ⟨rfl, hb⟩; have HB3 := Lib.hid (HB2.out.trans (hb.mono HB2.out.size)); have HN3 := Lib.hid ((hb.block _ HNL.out).trans HN2.out); have HNL3 := Lib.hid (Nat.lt_of_lt_of_le HNL.out hb.size); have HCM := Lib.hid (HIM.out _ HB3.out); clear hb)
        | (go_at_call 20; (with_reducible refine HCM.out.mono ?_); rintro e w4 ⟨rfl, hb⟩; have hb2 := hb.alloc hb.size (.cells #[.int .u8 mK, .int .u16 mM, .int .u32 mL, .int .u32 mS, .string mT] 31); have HB4 := Lib.hid (HB3.out.trans (hb2.mono HB3.out.size)); have n0 : (w4.alloc (.cells #[.int .u8 mK, .int .u16 mM, .int .u32 mL, .int .u32 mS, .string mT] 31)).cell? ⟨w2.heap.size, 0, none⟩ = some (.int .u8 (nK : Int)) := cell_of_row _ _ 0 _ _ _ ((hb2.block _ HNL3.out).trans HN3.out); clear hb hb2))
      go_ret
      exact ⟨by rw [HO.out]; rfl, HB4.out⟩
    · by_cases hn : nK = 1
      · have e2 : ((nK : Int) == 1) = true := eqz1 (decide_eq_true hn)
        rw [decide_eq_true hn] at HO
        clear hn
        go_enter Tryz.func29, Tryz.ntmps29
        go_wp2_with (first
          | (go_at_call 25; (with_reducible refine (HP.out _).mono ?_); rintro e w1 ⟨rfl, hb⟩; have hb2 := hb.alloc hb.size (.cells #[.int .u8 kK, .int .u32 kI, .string kN, .int .u32 kC] 75); have HB1 := Lib.hid (HB0.out.trans (hb2.mono HB0.out.size)); have HX1 := Lib.hid ((hb2.block _ HZ.out).trans HX0.out); have p1 : (w1.alloc (.cells #[.int .u8 kK, .int .u32 kI, .string kN, .int .u32 kC] 75)).cell? ⟨w1.heap.size, 1, none⟩ = some (.int .u32 (kI : Int)) := cell_of_row _ _ 1 _ _ _ (heap_alloc_new w1 (.cells #[.int .u8 kK, .int .u32 kI, .string kN, .int .u32 kC] 75)); have HK1 := Lib.hid (heap_alloc_new w1 (.cells #[.int .u8 kK, .int .u32 kI, .string kN, .int .u32 kC] 75)); have HKL := Lib.hid (show w1.heap.size < (w1.alloc (.cells #[.int .u8 kK, .int .u32 kI, .string kN, .int .u32 kC] 75)).heap.size by simp); have HCI := Lib.hid (HIN.out _ HB1.out); have HXL := Lib.hid (Nat.lt_of_lt_of_le HZ.out hb2.size); clear hb hb2)
          | (go_at_call 20; (with_reducible refine HCI.out.mono ?_); rintro e w2 ⟨rfl, hb⟩; have hb2 := hb.alloc hb.size (.cells #[.int .u8 nK, .int .u16 nM, .int .u32 nL, .int .u32 nS, .string nT] 31); have HB2 := Lib.hid (HB1.out.trans (hb2.mono HB1.out.size)); have r0 := (hb2.block _ HKL.out).trans HK1.out; have q0 : (w2.alloc (.cells #[.int .u8 nK, .int .u16 nM, .int .u32 nL, .int .u32 nS, .string nT] 31)).cell? ⟨w1.heap.size, 0, none⟩ = some (.int .u8 (kK : Int)) := cell_of_row _ _ 0 _ _ _ r0; have q3 : (w2.alloc (.cells #[.int .u8 nK, .int .u16 nM, .int .u32 nL, .int .u32 nS, .string nT] 31)).cell? ⟨w1.heap.size, 3, none⟩ = some (.int .u32 (kC : Int)) := cell_of_row _ _ 3 _ _ _ r0; have r1 := (hb2.block _ HXL.out).trans HX1.out; have HX2 := Lib.hid r1; have v1 : (w2.alloc (.cells #[.int .u8 nK, .int .u16 nM, .int .u32 nL, .int .u32 nS, .string nT] 31)).cell? ⟨w.heap.size, 1, none⟩ = some (.string xv) := cell_of_row _ _ 1 _ _ _ r1; have HN2 := Lib.hid (heap_alloc_new w2 (.cells #[.int .u8 nK, .int .u16 nM, .int .u32 nL, .int .u32 nS, .string nT] 31)); have n0 : (w2.alloc (.cells #[.int .u8 nK, .int .u16 nM, .int .u32 nL, .int .u32 nS, .string nT] 31)).cell? ⟨w2.heap.size, 0, none⟩ = some (.int .u8 (nK : Int)) := cell_of_row _ _ 0 _ _ _ (heap_alloc_new w2 (.cells #[.int .u8 nK, .int .u16 nM, .int .u32 nL, .int .u32 nS, .string nT] 31)); have n3 : (w2.alloc (.cells #[.int .u8 nK, .int .u16 nM, .int .u32 nL, .int .u32 nS, .string nT] 31)).cell? ⟨w2.heap.size, 3, none⟩ = some (.int .u32 (nS : Int)) := cell_of_row _ _ 3 _ _ _ (heap_alloc_new w2 (.cells #[.int .u8 nK, .int .u16 nM, .int .u32 nL, .int .u32 nS, .string nT] 31)); have HNL := Lib.hid (show w2.heap.size < (w2.alloc (.cells #[.int .u8 nK, .int .u16 nM, .int .u32 nL, .int .u32 nS, .string nT] 31)).heap.size by simp); clear hb hb2 r0 r1)
          | (refine wpList_load_row rfl 72 (.tmp 3) rfl w.heap.size rfl 72 #[.string xk, .string xv] (0, 0) _ HX2.out Tryz.underlying72 rfl (by kernel_rfl) ?_)
          | (go_at_call 26; (with_reducible refine (HND.out _).mono ?_); rintro e w3 ⟨rfl, hb⟩; have HB3 := Lib.hid (HB2.out.trans (hb.mono HB2.out.size)); have HN3 := Lib.hid ((hb.block _ HNL.out).trans HN2.out); have HNL3 := Lib.hid (Nat.lt_of_lt_of_le HNL.out hb.size); have HCM := Lib.hid (HIM.out _ HB3.out); clear hb)
          | (go_at_call 20; (with_reducible refine HCM.out.mono ?_); rintro e w4 ⟨rfl, hb⟩; have hb2 := hb.alloc hb.size (.cells #[.int .u8 mK, .int .u16 mM, .int .u32 mL, .int .u32 mS, .string mT] 31); have HB4 := Lib.hid (HB3.out.trans (hb2.mono HB3.out.size)); have n0 : (w4.alloc (.cells #[.int .u8 mK, .int .u16 mM, .int .u32 mL, .int .u32 mS, .string mT] 31)).cell? ⟨w2.heap.size, 0, none⟩ = some (.int .u8 (nK : Int)) := cell_of_row _ _ 0 _ _ _ ((hb2.block _ HNL3.out).trans HN3.out); clear hb hb2))
        go_ret
        exact ⟨by rw [HO.out]; rfl, HB4.out⟩
      · have e2 : ((nK : Int) == 1) = false := eqz1 (decide_eq_false hn)
        rw [decide_eq_false hn] at HO
        clear hn
        go_enter Tryz.func29, Tryz.ntmps29
        go_wp2_with (first
          | (go_at_call 25; (with_reducible refine (HP.out _).mono ?_); rintro e w1 ⟨rfl, hb⟩; have hb2 := hb.alloc hb.size (.cells #[.int .u8 kK, .int .u32 kI, .string kN, .int .u32 kC] 75); have HB1 := Lib.hid (HB0.out.trans (hb2.mono HB0.out.size)); have HX1 := Lib.hid ((hb2.block _ HZ.out).trans HX0.out); have p1 : (w1.alloc (.cells #[.int .u8 kK, .int .u32 kI, .string kN, .int .u32 kC] 75)).cell? ⟨w1.heap.size, 1, none⟩ = some (.int .u32 (kI : Int)) := cell_of_row _ _ 1 _ _ _ (heap_alloc_new w1 (.cells #[.int .u8 kK, .int .u32 kI, .string kN, .int .u32 kC] 75)); have HK1 := Lib.hid (heap_alloc_new w1 (.cells #[.int .u8 kK, .int .u32 kI, .string kN, .int .u32 kC] 75)); have HKL := Lib.hid (show w1.heap.size < (w1.alloc (.cells #[.int .u8 kK, .int .u32 kI, .string kN, .int .u32 kC] 75)).heap.size by simp); have HCI := Lib.hid (HIN.out _ HB1.out); have HXL := Lib.hid (Nat.lt_of_lt_of_le HZ.out hb2.size); clear hb hb2)
          | (go_at_call 20; (with_reducible refine HCI.out.mono ?_); rintro e w2 ⟨rfl, hb⟩; have hb2 := hb.alloc hb.size (.cells #[.int .u8 nK, .int .u16 nM, .int .u32 nL, .int .u32 nS, .string nT] 31); have HB2 := Lib.hid (HB1.out.trans (hb2.mono HB1.out.size)); have r0 := (hb2.block _ HKL.out).trans HK1.out; have q0 : (w2.alloc (.cells #[.int .u8 nK, .int .u16 nM, .int .u32 nL, .int .u32 nS, .string nT] 31)).cell? ⟨w1.heap.size, 0, none⟩ = some (.int .u8 (kK : Int)) := cell_of_row _ _ 0 _ _ _ r0; have q3 : (w2.alloc (.cells #[.int .u8 nK, .int .u16 nM, .int .u32 nL, .int .u32 nS, .string nT] 31)).cell? ⟨w1.heap.size, 3, none⟩ = some (.int .u32 (kC : Int)) := cell_of_row _ _ 3 _ _ _ r0; have r1 := (hb2.block _ HXL.out).trans HX1.out; have HX2 := Lib.hid r1; have v1 : (w2.alloc (.cells #[.int .u8 nK, .int .u16 nM, .int .u32 nL, .int .u32 nS, .string nT] 31)).cell? ⟨w.heap.size, 1, none⟩ = some (.string xv) := cell_of_row _ _ 1 _ _ _ r1; have HN2 := Lib.hid (heap_alloc_new w2 (.cells #[.int .u8 nK, .int .u16 nM, .int .u32 nL, .int .u32 nS, .string nT] 31)); have n0 : (w2.alloc (.cells #[.int .u8 nK, .int .u16 nM, .int .u32 nL, .int .u32 nS, .string nT] 31)).cell? ⟨w2.heap.size, 0, none⟩ = some (.int .u8 (nK : Int)) := cell_of_row _ _ 0 _ _ _ (heap_alloc_new w2 (.cells #[.int .u8 nK, .int .u16 nM, .int .u32 nL, .int .u32 nS, .string nT] 31)); have n3 : (w2.alloc (.cells #[.int .u8 nK, .int .u16 nM, .int .u32 nL, .int .u32 nS, .string nT] 31)).cell? ⟨w2.heap.size, 3, none⟩ = some (.int .u32 (nS : Int)) := cell_of_row _ _ 3 _ _ _ (heap_alloc_new w2 (.cells #[.int .u8 nK, .int .u16 nM, .int .u32 nL, .int .u32 nS, .string nT] 31)); have HNL := Lib.hid (show w2.heap.size < (w2.alloc (.cells #[.int .u8 nK, .int .u16 nM, .int .u32 nL, .int .u32 nS, .string nT] 31)).heap.size by simp); clear hb hb2 r0 r1)
          | (refine wpList_load_row rfl 72 (.tmp 3) rfl w.heap.size rfl 72 #[.string xk, .string xv] (0, 0) _ HX2.out Tryz.underlying72 rfl (by kernel_rfl) ?_)
          | (go_at_call 26; (with_reducible refine (HND.out _).mono ?_); rintro e w3 ⟨rfl, hb⟩; have HB3 := Lib.hid (HB2.out.trans (hb.mono HB2.out.size)); have HN3 := Lib.hid ((hb.block _ HNL.out).trans HN2.out); have HNL3 := Lib.hid (Nat.lt_of_lt_of_le HNL.out hb.size); have HCM := Lib.hid (HIM.out _ HB3.out); clear hb)
          | (go_at_call 20; (with_reducible refine HCM.out.mono ?_); rintro e w4 ⟨rfl, hb⟩; have hb2 := hb.alloc hb.size (.cells #[.int .u8 mK, .int .u16 mM, .int .u32 mL, .int .u32 mS, .string mT] 31); have HB4 := Lib.hid (HB3.out.trans (hb2.mono HB3.out.size)); have n0 : (w4.alloc (.cells #[.int .u8 mK, .int .u16 mM, .int .u32 mL, .int .u32 mS, .string mT] 31)).cell? ⟨w2.heap.size, 0, none⟩ = some (.int .u8 (nK : Int)) := cell_of_row _ _ 0 _ _ _ ((hb2.block _ HNL3.out).trans HN3.out); clear hb hb2))
        go_ret
        exact ⟨by rw [HO.out]; rfl, HB4.out⟩
  · have e1 : ((kK : Int) == 2) = false := eqz2 (decide_eq_false hk2)
    rw [if_neg hk2] at HO
    clear hk2
    by_cases hk3 : kK = 3
    · have e2 : ((kK : Int) == 3) = true := eqz3 (decide_eq_true hk3)
      rw [if_pos hk3] at HO
      have hC := hC hk3
      clear hk3
      cases nb
      · go_enter Tryz.func29, Tryz.ntmps29
        go_wp2_with (first
          | (go_at_call 25; (with_reducible refine (HP.out _).mono ?_); rintro e w1 ⟨rfl, hb⟩; have hb2 := hb.alloc hb.size (.cells #[.int .u8 kK, .int .u32 kI, .string kN, .int .u32 kC] 75); have HB1 := Lib.hid (HB0.out.trans (hb2.mono HB0.out.size)); have HX1 := Lib.hid ((hb2.block _ HZ.out).trans HX0.out); have p1 : (w1.alloc (.cells #[.int .u8 kK, .int .u32 kI, .string kN, .int .u32 kC] 75)).cell? ⟨w1.heap.size, 1, none⟩ = some (.int .u32 (kI : Int)) := cell_of_row _ _ 1 _ _ _ (heap_alloc_new w1 (.cells #[.int .u8 kK, .int .u32 kI, .string kN, .int .u32 kC] 75)); have HK1 := Lib.hid (heap_alloc_new w1 (.cells #[.int .u8 kK, .int .u32 kI, .string kN, .int .u32 kC] 75)); have HKL := Lib.hid (show w1.heap.size < (w1.alloc (.cells #[.int .u8 kK, .int .u32 kI, .string kN, .int .u32 kC] 75)).heap.size by simp); have HCI := Lib.hid (HIN.out _ HB1.out); have HXL := Lib.hid (Nat.lt_of_lt_of_le HZ.out hb2.size); clear hb hb2)
          | (go_at_call 20; (with_reducible refine HCI.out.mono ?_); rintro e w2 ⟨rfl, hb⟩; have hb2 := hb.alloc hb.size (.cells #[.int .u8 nK, .int .u16 nM, .int .u32 nL, .int .u32 nS, .string nT] 31); have HB2 := Lib.hid (HB1.out.trans (hb2.mono HB1.out.size)); have r0 := (hb2.block _ HKL.out).trans HK1.out; have q0 : (w2.alloc (.cells #[.int .u8 nK, .int .u16 nM, .int .u32 nL, .int .u32 nS, .string nT] 31)).cell? ⟨w1.heap.size, 0, none⟩ = some (.int .u8 (kK : Int)) := cell_of_row _ _ 0 _ _ _ r0; have q3 : (w2.alloc (.cells #[.int .u8 nK, .int .u16 nM, .int .u32 nL, .int .u32 nS, .string nT] 31)).cell? ⟨w1.heap.size, 3, none⟩ = some (.int .u32 (kC : Int)) := cell_of_row _ _ 3 _ _ _ r0; have r1 := (hb2.block _ HXL.out).trans HX1.out; have HX2 := Lib.hid r1; have v1 : (w2.alloc (.cells #[.int .u8 nK, .int .u16 nM, .int .u32 nL, .int .u32 nS, .string nT] 31)).cell? ⟨w.heap.size, 1, none⟩ = some (.string xv) := cell_of_row _ _ 1 _ _ _ r1; have HN2 := Lib.hid (heap_alloc_new w2 (.cells #[.int .u8 nK, .int .u16 nM, .int .u32 nL, .int .u32 nS, .string nT] 31)); have n0 : (w2.alloc (.cells #[.int .u8 nK, .int .u16 nM, .int .u32 nL, .int .u32 nS, .string nT] 31)).cell? ⟨w2.heap.size, 0, none⟩ = some (.int .u8 (nK : Int)) := cell_of_row _ _ 0 _ _ _ (heap_alloc_new w2 (.cells #[.int .u8 nK, .int .u16 nM, .int .u32 nL, .int .u32 nS, .string nT] 31)); have n3 : (w2.alloc (.cells #[.int .u8 nK, .int .u16 nM, .int .u32 nL, .int .u32 nS, .string nT] 31)).cell? ⟨w2.heap.size, 3, none⟩ = some (.int .u32 (nS : Int)) := cell_of_row _ _ 3 _ _ _ (heap_alloc_new w2 (.cells #[.int .u8 nK, .int .u16 nM, .int .u32 nL, .int .u32 nS, .string nT] 31)); have HNL := Lib.hid (show w2.heap.size < (w2.alloc (.cells #[.int .u8 nK, .int .u16 nM, .int .u32 nL, .int .u32 nS, .string nT] 31)).heap.size by simp); clear hb hb2 r0 r1))
        go_ret
        exact ⟨by rw [HO.out]; rfl, HB2.out⟩
      · by_cases hn : nK ≠ 2
        · have e3 : ((nK : Int) == 2) = false := eqz2 (decide_eq_false hn)
          rw [decide_eq_false hn] at HO
          clear hn
          go_enter Tryz.func29, Tryz.ntmps29
          go_wp2_with (first
            | (go_at_call 25; (with_reducible refine (HP.out _).mono ?_); rintro e w1 ⟨rfl, hb⟩; have hb2 := hb.alloc hb.size (.cells #[.int .u8 kK, .int .u32 kI, .string kN, .int .u32 kC] 75); have HB1 := Lib.hid (HB0.out.trans (hb2.mono HB0.out.size)); have HX1 := Lib.hid ((hb2.block _ HZ.out).trans HX0.out); have p1 : (w1.alloc (.cells #[.int .u8 kK, .int .u32 kI, .string kN, .int .u32 kC] 75)).cell? ⟨w1.heap.size, 1, none⟩ = some (.int .u32 (kI : Int)) := cell_of_row _ _ 1 _ _ _ (heap_alloc_new w1 (.cells #[.int .u8 kK, .int .u32 kI, .string kN, .int .u32 kC] 75)); have HK1 := Lib.hid (heap_alloc_new w1 (.cells #[.int .u8 kK, .int .u32 kI, .string kN, .int .u32 kC] 75)); have HKL := Lib.hid (show w1.heap.size < (w1.alloc (.cells #[.int .u8 kK, .int .u32 kI, .string kN, .int .u32 kC] 75)).heap.size by simp); have HCI := Lib.hid (HIN.out _ HB1.out); have HXL := Lib.hid (Nat.lt_of_lt_of_le HZ.out hb2.size); clear hb hb2)
            | (go_at_call 20; (with_reducible refine HCI.out.mono ?_); rintro e w2 ⟨rfl, hb⟩; have hb2 := hb.alloc hb.size (.cells #[.int .u8 nK, .int .u16 nM, .int .u32 nL, .int .u32 nS, .string nT] 31); have HB2 := Lib.hid (HB1.out.trans (hb2.mono HB1.out.size)); have r0 := (hb2.block _ HKL.out).trans HK1.out; have q0 : (w2.alloc (.cells #[.int .u8 nK, .int .u16 nM, .int .u32 nL, .int .u32 nS, .string nT] 31)).cell? ⟨w1.heap.size, 0, none⟩ = some (.int .u8 (kK : Int)) := cell_of_row _ _ 0 _ _ _ r0; have q3 : (w2.alloc (.cells #[.int .u8 nK, .int .u16 nM, .int .u32 nL, .int .u32 nS, .string nT] 31)).cell? ⟨w1.heap.size, 3, none⟩ = some (.int .u32 (kC : Int)) := cell_of_row _ _ 3 _ _ _ r0; have r1 := (hb2.block _ HXL.out).trans HX1.out; have HX2 := Lib.hid r1; have v1 : (w2.alloc (.cells #[.int .u8 nK, .int .u16 nM, .int .u32 nL, .int .u32 nS, .string nT] 31)).cell? ⟨w.heap.size, 1, none⟩ = some (.string xv) := cell_of_row _ _ 1 _ _ _ r1; have HN2 := Lib.hid (heap_alloc_new w2 (.cells #[.int .u8 nK, .int .u16 nM, .int .u32 nL, .int .u32 nS, .string nT] 31)); have n0 : (w2.alloc (.cells #[.int .u8 nK, .int .u16 nM, .int .u32 nL, .int .u32 nS, .string nT] 31)).cell? ⟨w2.heap.size, 0, none⟩ = some (.int .u8 (nK : Int)) := cell_of_row _ _ 0 _ _ _ (heap_alloc_new w2 (.cells #[.int .u8 nK, .int .u16 nM, .int .u32 nL, .int .u32 nS, .string nT] 31)); have n3 : (w2.alloc (.cells #[.int .u8 nK, .int .u16 nM, .int .u32 nL, .int .u32 nS, .string nT] 31)).cell? ⟨w2.heap.size, 3, none⟩ = some (.int .u32 (nS : Int)) := cell_of_row _ _ 3 _ _ _ (heap_alloc_new w2 (.cells #[.int .u8 nK, .int .u16 nM, .int .u32 nL, .int .u32 nS, .string nT] 31)); have HNL := Lib.hid (show w2.heap.size < (w2.alloc (.cells #[.int .u8 nK, .int .u16 nM, .int .u32 nL, .int .u32 nS, .string nT] 31)).heap.size by simp); clear hb hb2 r0 r1))
          go_ret
          exact ⟨by rw [HO.out]; rfl, HB2.out⟩
        replace hn := Decidable.not_not.1 hn
        have e3 : ((nK : Int) == 2) = true := eqz2 (decide_eq_true hn)
        rw [decide_eq_true hn] at HO
        clear hn
        by_cases hz : xv.size = 0
        · have e4 : decide ((1 : Int) ≤ (xv.size : Int)) = false := decide_eq_false (by omega)
          rw [decide_eq_false (fun h => h hz)] at HO
          clear hz
          go_enter Tryz.func29, Tryz.ntmps29
          go_wp2_with (first
            | (go_at_call 25; (with_reducible refine (HP.out _).mono ?_); rintro e w1 ⟨rfl, hb⟩; have hb2 := hb.alloc hb.size (.cells #[.int .u8 kK, .int .u32 kI, .string kN, .int .u32 kC] 75); have HB1 := Lib.hid (HB0.out.trans (hb2.mono HB0.out.size)); have HX1 := Lib.hid ((hb2.block _ HZ.out).trans HX0.out); have p1 : (w1.alloc (.cells #[.int .u8 kK, .int .u32 kI, .string kN, .int .u32 kC] 75)).cell? ⟨w1.heap.size, 1, none⟩ = some (.int .u32 (kI : Int)) := cell_of_row _ _ 1 _ _ _ (heap_alloc_new w1 (.cells #[.int .u8 kK, .int .u32 kI, .string kN, .int .u32 kC] 75)); have HK1 := Lib.hid (heap_alloc_new w1 (.cells #[.int .u8 kK, .int .u32 kI, .string kN, .int .u32 kC] 75)); have HKL := Lib.hid (show w1.heap.size < (w1.alloc (.cells #[.int .u8 kK, .int .u32 kI, .string kN, .int .u32 kC] 75)).heap.size by simp); have HCI := Lib.hid (HIN.out _ HB1.out); have HXL := Lib.hid (Nat.lt_of_lt_of_le HZ.out hb2.size); clear hb hb2)
            | (go_at_call 20; (with_reducible refine HCI.out.mono ?_); rintro e w2 ⟨rfl, hb⟩; have hb2 := hb.alloc hb.size (.cells #[.int .u8 nK, .int .u16 nM, .int .u32 nL, .int .u32 nS, .string nT] 31); have HB2 := Lib.hid (HB1.out.trans (hb2.mono HB1.out.size)); have r0 := (hb2.block _ HKL.out).trans HK1.out; have q0 : (w2.alloc (.cells #[.int .u8 nK, .int .u16 nM, .int .u32 nL, .int .u32 nS, .string nT] 31)).cell? ⟨w1.heap.size, 0, none⟩ = some (.int .u8 (kK : Int)) := cell_of_row _ _ 0 _ _ _ r0; have q3 : (w2.alloc (.cells #[.int .u8 nK, .int .u16 nM, .int .u32 nL, .int .u32 nS, .string nT] 31)).cell? ⟨w1.heap.size, 3, none⟩ = some (.int .u32 (kC : Int)) := cell_of_row _ _ 3 _ _ _ r0; have r1 := (hb2.block _ HXL.out).trans HX1.out; have HX2 := Lib.hid r1; have v1 : (w2.alloc (.cells #[.int .u8 nK, .int .u16 nM, .int .u32 nL, .int .u32 nS, .string nT] 31)).cell? ⟨w.heap.size, 1, none⟩ = some (.string xv) := cell_of_row _ _ 1 _ _ _ r1; have HN2 := Lib.hid (heap_alloc_new w2 (.cells #[.int .u8 nK, .int .u16 nM, .int .u32 nL, .int .u32 nS, .string nT] 31)); have n0 : (w2.alloc (.cells #[.int .u8 nK, .int .u16 nM, .int .u32 nL, .int .u32 nS, .string nT] 31)).cell? ⟨w2.heap.size, 0, none⟩ = some (.int .u8 (nK : Int)) := cell_of_row _ _ 0 _ _ _ (heap_alloc_new w2 (.cells #[.int .u8 nK, .int .u16 nM, .int .u32 nL, .int .u32 nS, .string nT] 31)); have n3 : (w2.alloc (.cells #[.int .u8 nK, .int .u16 nM, .int .u32 nL, .int .u32 nS, .string nT] 31)).cell? ⟨w2.heap.size, 3, none⟩ = some (.int .u32 (nS : Int)) := cell_of_row _ _ 3 _ _ _ (heap_alloc_new w2 (.cells #[.int .u8 nK, .int .u16 nM, .int .u32 nL, .int .u32 nS, .string nT] 31)); have HNL := Lib.hid (show w2.heap.size < (w2.alloc (.cells #[.int .u8 nK, .int .u16 nM, .int .u32 nL, .int .u32 nS, .string nT] 31)).heap.size by simp); clear hb hb2 r0 r1))
          go_ret
          exact ⟨by rw [HO.out]; rfl, HB2.out⟩
        have e4 : decide ((1 : Int) ≤ (xv.size : Int)) = true := decide_eq_true (by omega)
        rw [decide_eq_true (show xv.size ≠ 0 from hz)] at HO
        by_cases hl : ¬ xv.size ≤ 128
        · have e5 : decide ((xv.size : Int) ≤ 128) = false := decide_eq_false (by omega)
          rw [decide_eq_false hl] at HO
          clear hl
          go_enter Tryz.func29, Tryz.ntmps29
          go_wp2_with (first
            | (go_at_call 25; (with_reducible refine (HP.out _).mono ?_); rintro e w1 ⟨rfl, hb⟩; have hb2 := hb.alloc hb.size (.cells #[.int .u8 kK, .int .u32 kI, .string kN, .int .u32 kC] 75); have HB1 := Lib.hid (HB0.out.trans (hb2.mono HB0.out.size)); have HX1 := Lib.hid ((hb2.block _ HZ.out).trans HX0.out); have p1 : (w1.alloc (.cells #[.int .u8 kK, .int .u32 kI, .string kN, .int .u32 kC] 75)).cell? ⟨w1.heap.size, 1, none⟩ = some (.int .u32 (kI : Int)) := cell_of_row _ _ 1 _ _ _ (heap_alloc_new w1 (.cells #[.int .u8 kK, .int .u32 kI, .string kN, .int .u32 kC] 75)); have HK1 := Lib.hid (heap_alloc_new w1 (.cells #[.int .u8 kK, .int .u32 kI, .string kN, .int .u32 kC] 75)); have HKL := Lib.hid (show w1.heap.size < (w1.alloc (.cells #[.int .u8 kK, .int .u32 kI, .string kN, .int .u32 kC] 75)).heap.size by simp); have HCI := Lib.hid (HIN.out _ HB1.out); have HXL := Lib.hid (Nat.lt_of_lt_of_le HZ.out hb2.size); clear hb hb2)
            | (go_at_call 20; (with_reducible refine HCI.out.mono ?_); rintro e w2 ⟨rfl, hb⟩; have hb2 := hb.alloc hb.size (.cells #[.int .u8 nK, .int .u16 nM, .int .u32 nL, .int .u32 nS, .string nT] 31); have HB2 := Lib.hid (HB1.out.trans (hb2.mono HB1.out.size)); have r0 := (hb2.block _ HKL.out).trans HK1.out; have q0 : (w2.alloc (.cells #[.int .u8 nK, .int .u16 nM, .int .u32 nL, .int .u32 nS, .string nT] 31)).cell? ⟨w1.heap.size, 0, none⟩ = some (.int .u8 (kK : Int)) := cell_of_row _ _ 0 _ _ _ r0; have q3 : (w2.alloc (.cells #[.int .u8 nK, .int .u16 nM, .int .u32 nL, .int .u32 nS, .string nT] 31)).cell? ⟨w1.heap.size, 3, none⟩ = some (.int .u32 (kC : Int)) := cell_of_row _ _ 3 _ _ _ r0; have r1 := (hb2.block _ HXL.out).trans HX1.out; have HX2 := Lib.hid r1; have v1 : (w2.alloc (.cells #[.int .u8 nK, .int .u16 nM, .int .u32 nL, .int .u32 nS, .string nT] 31)).cell? ⟨w.heap.size, 1, none⟩ = some (.string xv) := cell_of_row _ _ 1 _ _ _ r1; have HN2 := Lib.hid (heap_alloc_new w2 (.cells #[.int .u8 nK, .int .u16 nM, .int .u32 nL, .int .u32 nS, .string nT] 31)); have n0 : (w2.alloc (.cells #[.int .u8 nK, .int .u16 nM, .int .u32 nL, .int .u32 nS, .string nT] 31)).cell? ⟨w2.heap.size, 0, none⟩ = some (.int .u8 (nK : Int)) := cell_of_row _ _ 0 _ _ _ (heap_alloc_new w2 (.cells #[.int .u8 nK, .int .u16 nM, .int .u32 nL, .int .u32 nS, .string nT] 31)); have n3 : (w2.alloc (.cells #[.int .u8 nK, .int .u16 nM, .int .u32 nL, .int .u32 nS, .string nT] 31)).cell? ⟨w2.heap.size, 3, none⟩ = some (.int .u32 (nS : Int)) := cell_of_row _ _ 3 _ _ _ (heap_alloc_new w2 (.cells #[.int .u8 nK, .int .u16 nM, .int .u32 nL, .int .u32 nS, .string nT] 31)); have HNL := Lib.hid (show w2.heap.size < (w2.alloc (.cells #[.int .u8 nK, .int .u16 nM, .int .u32 nL, .int .u32 nS, .string nT] 31)).heap.size by simp); clear hb hb2 r0 r1))
          go_ret
          exact ⟨by rw [HO.out]; rfl, HB2.out⟩
        replace hl := Decidable.not_not.1 hl
        have e5 : decide ((xv.size : Int) ≤ 128) = true := decide_eq_true (by omega)
        rw [decide_eq_true hl] at HO
        obtain ⟨z, hzz⟩ : ∃ z, xv.size = z + 1 := ⟨xv.size - 1, by omega⟩
        have hsub : (xv.size : Int) - 1 = (z : Int) := by omega
        have hlt : z < xv.size := by omega
        have hlz := lz_at hzz hlt
        rw [hlz] at HO
        have HZZ := Lib.hid hzz
        clear hlz hz hl hzz
        cases b1 : (xv[z] == 0)
        · have e6 : ((xv[z].toNat : Int) == 0) = false := byte_ne b1
          have e7 : ((xv[z].toNat : Int) != 0) = true := by rw [bne, e6]; rfl
          rw [b1] at HO
          have hw1 : IntKind.i64.wrap (kC : Int) = (kC : Int) := by rw [IntKind.wrap_i64]; omega
          have hw2 : IntKind.i64.wrap (nS : Int) = (nS : Int) := by rw [IntKind.wrap_i64]; omega
          have hw3 : IntKind.i64.wrap ((kC : Int) * 128) = (kC : Int) * 128 := by rw [IntKind.wrap_i64]; omega
          have hw4 : IntKind.i64.wrap ((kC : Int) * 128 + (xv.size : Int)) = (kC : Int) * 128 + (xv.size : Int) := by rw [IntKind.wrap_i64]; omega
          have e8 : decide ((kC : Int) * 128 + (xv.size : Int) ≤ (nS : Int)) = decide (kC * 128 + xv.size ≤ nS) := by rw [decide_eq_decide]; omega
          clear b1
          go_enter Tryz.func29, Tryz.ntmps29
          go_wp2_with (first
            | (go_at_call 25; (with_reducible refine (HP.out _).mono ?_); rintro e w1 ⟨rfl, hb⟩; have hb2 := hb.alloc hb.size (.cells #[.int .u8 kK, .int .u32 kI, .string kN, .int .u32 kC] 75); have HB1 := Lib.hid (HB0.out.trans (hb2.mono HB0.out.size)); have HX1 := Lib.hid ((hb2.block _ HZ.out).trans HX0.out); have p1 : (w1.alloc (.cells #[.int .u8 kK, .int .u32 kI, .string kN, .int .u32 kC] 75)).cell? ⟨w1.heap.size, 1, none⟩ = some (.int .u32 (kI : Int)) := cell_of_row _ _ 1 _ _ _ (heap_alloc_new w1 (.cells #[.int .u8 kK, .int .u32 kI, .string kN, .int .u32 kC] 75)); have HK1 := Lib.hid (heap_alloc_new w1 (.cells #[.int .u8 kK, .int .u32 kI, .string kN, .int .u32 kC] 75)); have HKL := Lib.hid (show w1.heap.size < (w1.alloc (.cells #[.int .u8 kK, .int .u32 kI, .string kN, .int .u32 kC] 75)).heap.size by simp); have HCI := Lib.hid (HIN.out _ HB1.out); have HXL := Lib.hid (Nat.lt_of_lt_of_le HZ.out hb2.size); clear hb hb2)
            | (go_at_call 20; (with_reducible refine HCI.out.mono ?_); rintro e w2 ⟨rfl, hb⟩; have hb2 := hb.alloc hb.size (.cells #[.int .u8 nK, .int .u16 nM, .int .u32 nL, .int .u32 nS, .string nT] 31); have HB2 := Lib.hid (HB1.out.trans (hb2.mono HB1.out.size)); have r0 := (hb2.block _ HKL.out).trans HK1.out; have q0 : (w2.alloc (.cells #[.int .u8 nK, .int .u16 nM, .int .u32 nL, .int .u32 nS, .string nT] 31)).cell? ⟨w1.heap.size, 0, none⟩ = some (.int .u8 (kK : Int)) := cell_of_row _ _ 0 _ _ _ r0; have q3 : (w2.alloc (.cells #[.int .u8 nK, .int .u16 nM, .int .u32 nL, .int .u32 nS, .string nT] 31)).cell? ⟨w1.heap.size, 3, none⟩ = some (.int .u32 (kC : Int)) := cell_of_row _ _ 3 _ _ _ r0; have r1 := (hb2.block _ HXL.out).trans HX1.out; have HX2 := Lib.hid r1; have v1 : (w2.alloc (.cells #[.int .u8 nK, .int .u16 nM, .int .u32 nL, .int .u32 nS, .string nT] 31)).cell? ⟨w.heap.size, 1, none⟩ = some (.string xv) := cell_of_row _ _ 1 _ _ _ r1; have HN2 := Lib.hid (heap_alloc_new w2 (.cells #[.int .u8 nK, .int .u16 nM, .int .u32 nL, .int .u32 nS, .string nT] 31)); have n0 : (w2.alloc (.cells #[.int .u8 nK, .int .u16 nM, .int .u32 nL, .int .u32 nS, .string nT] 31)).cell? ⟨w2.heap.size, 0, none⟩ = some (.int .u8 (nK : Int)) := cell_of_row _ _ 0 _ _ _ (heap_alloc_new w2 (.cells #[.int .u8 nK, .int .u16 nM, .int .u32 nL, .int .u32 nS, .string nT] 31)); have n3 : (w2.alloc (.cells #[.int .u8 nK, .int .u16 nM, .int .u32 nL, .int .u32 nS, .string nT] 31)).cell? ⟨w2.heap.size, 3, none⟩ = some (.int .u32 (nS : Int)) := cell_of_row _ _ 3 _ _ _ (heap_alloc_new w2 (.cells #[.int .u8 nK, .int .u16 nM, .int .u32 nL, .int .u32 nS, .string nT] 31)); have HNL := Lib.hid (show w2.heap.size < (w2.alloc (.cells #[.int .u8 nK, .int .u16 nM, .int .u32 nL, .int .u32 nS, .string nT] 31)).heap.size by simp); clear hb hb2 r0 r1))
          go_ret
          exact ⟨by rw [HO.out]; simp, HB2.out⟩
        · have e6 : ((xv[z].toNat : Int) == 0) = true := byte_eq b1
          have e7 : ((xv[z].toNat : Int) != 0) = false := by rw [bne, e6]; rfl
          rw [b1] at HO
          clear b1
          go_enter Tryz.func29, Tryz.ntmps29
          go_wp2_with (first
            | (go_at_call 25; (with_reducible refine (HP.out _).mono ?_); rintro e w1 ⟨rfl, hb⟩; have hb2 := hb.alloc hb.size (.cells #[.int .u8 kK, .int .u32 kI, .string kN, .int .u32 kC] 75); have HB1 := Lib.hid (HB0.out.trans (hb2.mono HB0.out.size)); have HX1 := Lib.hid ((hb2.block _ HZ.out).trans HX0.out); have p1 : (w1.alloc (.cells #[.int .u8 kK, .int .u32 kI, .string kN, .int .u32 kC] 75)).cell? ⟨w1.heap.size, 1, none⟩ = some (.int .u32 (kI : Int)) := cell_of_row _ _ 1 _ _ _ (heap_alloc_new w1 (.cells #[.int .u8 kK, .int .u32 kI, .string kN, .int .u32 kC] 75)); have HK1 := Lib.hid (heap_alloc_new w1 (.cells #[.int .u8 kK, .int .u32 kI, .string kN, .int .u32 kC] 75)); have HKL := Lib.hid (show w1.heap.size < (w1.alloc (.cells #[.int .u8 kK, .int .u32 kI, .string kN, .int .u32 kC] 75)).heap.size by simp); have HCI := Lib.hid (HIN.out _ HB1.out); have HXL := Lib.hid (Nat.lt_of_lt_of_le HZ.out hb2.size); clear hb hb2)
            | (go_at_call 20; (with_reducible refine HCI.out.mono ?_); rintro e w2 ⟨rfl, hb⟩; have hb2 := hb.alloc hb.size (.cells #[.int .u8 nK, .int .u16 nM, .int .u32 nL, .int .u32 nS, .string nT] 31); have HB2 := Lib.hid (HB1.out.trans (hb2.mono HB1.out.size)); have r0 := (hb2.block _ HKL.out).trans HK1.out; have q0 : (w2.alloc (.cells #[.int .u8 nK, .int .u16 nM, .int .u32 nL, .int .u32 nS, .string nT] 31)).cell? ⟨w1.heap.size, 0, none⟩ = some (.int .u8 (kK : Int)) := cell_of_row _ _ 0 _ _ _ r0; have q3 : (w2.alloc (.cells #[.int .u8 nK, .int .u16 nM, .int .u32 nL, .int .u32 nS, .string nT] 31)).cell? ⟨w1.heap.size, 3, none⟩ = some (.int .u32 (kC : Int)) := cell_of_row _ _ 3 _ _ _ r0; have r1 := (hb2.block _ HXL.out).trans HX1.out; have HX2 := Lib.hid r1; have v1 : (w2.alloc (.cells #[.int .u8 nK, .int .u16 nM, .int .u32 nL, .int .u32 nS, .string nT] 31)).cell? ⟨w.heap.size, 1, none⟩ = some (.string xv) := cell_of_row _ _ 1 _ _ _ r1; have HN2 := Lib.hid (heap_alloc_new w2 (.cells #[.int .u8 nK, .int .u16 nM, .int .u32 nL, .int .u32 nS, .string nT] 31)); have n0 : (w2.alloc (.cells #[.int .u8 nK, .int .u16 nM, .int .u32 nL, .int .u32 nS, .string nT] 31)).cell? ⟨w2.heap.size, 0, none⟩ = some (.int .u8 (nK : Int)) := cell_of_row _ _ 0 _ _ _ (heap_alloc_new w2 (.cells #[.int .u8 nK, .int .u16 nM, .int .u32 nL, .int .u32 nS, .string nT] 31)); have n3 : (w2.alloc (.cells #[.int .u8 nK, .int .u16 nM, .int .u32 nL, .int .u32 nS, .string nT] 31)).cell? ⟨w2.heap.size, 3, none⟩ = some (.int .u32 (nS : Int)) := cell_of_row _ _ 3 _ _ _ (heap_alloc_new w2 (.cells #[.int .u8 nK, .int .u16 nM, .int .u32 nL, .int .u32 nS, .string nT] 31)); have HNL := Lib.hid (show w2.heap.size < (w2.alloc (.cells #[.int .u8 nK, .int .u16 nM, .int .u32 nL, .int .u32 nS, .string nT] 31)).heap.size by simp); clear hb hb2 r0 r1))
          go_ret
          exact ⟨by rw [HO.out]; rfl, HB2.out⟩
    · have e2 : ((kK : Int) == 3) = false := eqz3 (decide_eq_false hk3)
      rw [if_neg hk3] at HO
      clear hk3 hC
      by_cases hk4 : kK = 4
      · have e3 : ((kK : Int) == 4) = true := by rw [hk4]; rfl
        rw [if_pos hk4] at HO
        clear hk4
        cases nb
        · go_enter Tryz.func29, Tryz.ntmps29
          go_wp2_with (first
            | (go_at_call 25; (with_reducible refine (HP.out _).mono ?_); rintro e w1 ⟨rfl, hb⟩; have hb2 := hb.alloc hb.size (.cells #[.int .u8 kK, .int .u32 kI, .string kN, .int .u32 kC] 75); have HB1 := Lib.hid (HB0.out.trans (hb2.mono HB0.out.size)); have HX1 := Lib.hid ((hb2.block _ HZ.out).trans HX0.out); have p1 : (w1.alloc (.cells #[.int .u8 kK, .int .u32 kI, .string kN, .int .u32 kC] 75)).cell? ⟨w1.heap.size, 1, none⟩ = some (.int .u32 (kI : Int)) := cell_of_row _ _ 1 _ _ _ (heap_alloc_new w1 (.cells #[.int .u8 kK, .int .u32 kI, .string kN, .int .u32 kC] 75)); have HK1 := Lib.hid (heap_alloc_new w1 (.cells #[.int .u8 kK, .int .u32 kI, .string kN, .int .u32 kC] 75)); have HKL := Lib.hid (show w1.heap.size < (w1.alloc (.cells #[.int .u8 kK, .int .u32 kI, .string kN, .int .u32 kC] 75)).heap.size by simp); have HCI := Lib.hid (HIN.out _ HB1.out); have HXL := Lib.hid (Nat.lt_of_lt_of_le HZ.out hb2.size); clear hb hb2)
            | (go_at_call 20; (with_reducible refine HCI.out.mono ?_); rintro e w2 ⟨rfl, hb⟩; have hb2 := hb.alloc hb.size (.cells #[.int .u8 nK, .int .u16 nM, .int .u32 nL, .int .u32 nS, .string nT] 31); have HB2 := Lib.hid (HB1.out.trans (hb2.mono HB1.out.size)); have r0 := (hb2.block _ HKL.out).trans HK1.out; have q0 : (w2.alloc (.cells #[.int .u8 nK, .int .u16 nM, .int .u32 nL, .int .u32 nS, .string nT] 31)).cell? ⟨w1.heap.size, 0, none⟩ = some (.int .u8 (kK : Int)) := cell_of_row _ _ 0 _ _ _ r0; have q3 : (w2.alloc (.cells #[.int .u8 nK, .int .u16 nM, .int .u32 nL, .int .u32 nS, .string nT] 31)).cell? ⟨w1.heap.size, 3, none⟩ = some (.int .u32 (kC : Int)) := cell_of_row _ _ 3 _ _ _ r0; have r1 := (hb2.block _ HXL.out).trans HX1.out; have HX2 := Lib.hid r1; have v1 : (w2.alloc (.cells #[.int .u8 nK, .int .u16 nM, .int .u32 nL, .int .u32 nS, .string nT] 31)).cell? ⟨w.heap.size, 1, none⟩ = some (.string xv) := cell_of_row _ _ 1 _ _ _ r1; have HN2 := Lib.hid (heap_alloc_new w2 (.cells #[.int .u8 nK, .int .u16 nM, .int .u32 nL, .int .u32 nS, .string nT] 31)); have n0 : (w2.alloc (.cells #[.int .u8 nK, .int .u16 nM, .int .u32 nL, .int .u32 nS, .string nT] 31)).cell? ⟨w2.heap.size, 0, none⟩ = some (.int .u8 (nK : Int)) := cell_of_row _ _ 0 _ _ _ (heap_alloc_new w2 (.cells #[.int .u8 nK, .int .u16 nM, .int .u32 nL, .int .u32 nS, .string nT] 31)); have n3 : (w2.alloc (.cells #[.int .u8 nK, .int .u16 nM, .int .u32 nL, .int .u32 nS, .string nT] 31)).cell? ⟨w2.heap.size, 3, none⟩ = some (.int .u32 (nS : Int)) := cell_of_row _ _ 3 _ _ _ (heap_alloc_new w2 (.cells #[.int .u8 nK, .int .u16 nM, .int .u32 nL, .int .u32 nS, .string nT] 31)); have HNL := Lib.hid (show w2.heap.size < (w2.alloc (.cells #[.int .u8 nK, .int .u16 nM, .int .u32 nL, .int .u32 nS, .string nT] 31)).heap.size by simp); clear hb hb2 r0 r1))
          go_ret
          exact ⟨by rw [HO.out]; rfl, HB2.out⟩
        · have e4 : decide ((xv.size : Int) ≤ 64) = decide (xv.size ≤ 64) := by rw [decide_eq_decide]; omega
          go_enter Tryz.func29, Tryz.ntmps29
          go_wp2_with (first
            | (go_at_call 25; (with_reducible refine (HP.out _).mono ?_); rintro e w1 ⟨rfl, hb⟩; have hb2 := hb.alloc hb.size (.cells #[.int .u8 kK, .int .u32 kI, .string kN, .int .u32 kC] 75); have HB1 := Lib.hid (HB0.out.trans (hb2.mono HB0.out.size)); have HX1 := Lib.hid ((hb2.block _ HZ.out).trans HX0.out); have p1 : (w1.alloc (.cells #[.int .u8 kK, .int .u32 kI, .string kN, .int .u32 kC] 75)).cell? ⟨w1.heap.size, 1, none⟩ = some (.int .u32 (kI : Int)) := cell_of_row _ _ 1 _ _ _ (heap_alloc_new w1 (.cells #[.int .u8 kK, .int .u32 kI, .string kN, .int .u32 kC] 75)); have HK1 := Lib.hid (heap_alloc_new w1 (.cells #[.int .u8 kK, .int .u32 kI, .string kN, .int .u32 kC] 75)); have HKL := Lib.hid (show w1.heap.size < (w1.alloc (.cells #[.int .u8 kK, .int .u32 kI, .string kN, .int .u32 kC] 75)).heap.size by simp); have HCI := Lib.hid (HIN.out _ HB1.out); have HXL := Lib.hid (Nat.lt_of_lt_of_le HZ.out hb2.size); clear hb hb2)
            | (go_at_call 20; (with_reducible refine HCI.out.mono ?_); rintro e w2 ⟨rfl, hb⟩; have hb2 := hb.alloc hb.size (.cells #[.int .u8 nK, .int .u16 nM, .int .u32 nL, .int .u32 nS, .string nT] 31); have HB2 := Lib.hid (HB1.out.trans (hb2.mono HB1.out.size)); have r0 := (hb2.block _ HKL.out).trans HK1.out; have q0 : (w2.alloc (.cells #[.int .u8 nK, .int .u16 nM, .int .u32 nL, .int .u32 nS, .string nT] 31)).cell? ⟨w1.heap.size, 0, none⟩ = some (.int .u8 (kK : Int)) := cell_of_row _ _ 0 _ _ _ r0; have q3 : (w2.alloc (.cells #[.int .u8 nK, .int .u16 nM, .int .u32 nL, .int .u32 nS, .string nT] 31)).cell? ⟨w1.heap.size, 3, none⟩ = some (.int .u32 (kC : Int)) := cell_of_row _ _ 3 _ _ _ r0; have r1 := (hb2.block _ HXL.out).trans HX1.out; have HX2 := Lib.hid r1; have v1 : (w2.alloc (.cells #[.int .u8 nK, .int .u16 nM, .int .u32 nL, .int .u32 nS, .string nT] 31)).cell? ⟨w.heap.size, 1, none⟩ = some (.string xv) := cell_of_row _ _ 1 _ _ _ r1; have HN2 := Lib.hid (heap_alloc_new w2 (.cells #[.int .u8 nK, .int .u16 nM, .int .u32 nL, .int .u32 nS, .string nT] 31)); have n0 : (w2.alloc (.cells #[.int .u8 nK, .int .u16 nM, .int .u32 nL, .int .u32 nS, .string nT] 31)).cell? ⟨w2.heap.size, 0, none⟩ = some (.int .u8 (nK : Int)) := cell_of_row _ _ 0 _ _ _ (heap_alloc_new w2 (.cells #[.int .u8 nK, .int .u16 nM, .int .u32 nL, .int .u32 nS, .string nT] 31)); have n3 : (w2.alloc (.cells #[.int .u8 nK, .int .u16 nM, .int .u32 nL, .int .u32 nS, .string nT] 31)).cell? ⟨w2.heap.size, 3, none⟩ = some (.int .u32 (nS : Int)) := cell_of_row _ _ 3 _ _ _ (heap_alloc_new w2 (.cells #[.int .u8 nK, .int .u16 nM, .int .u32 nL, .int .u32 nS, .string nT] 31)); have HNL := Lib.hid (show w2.heap.size < (w2.alloc (.cells #[.int .u8 nK, .int .u16 nM, .int .u32 nL, .int .u32 nS, .string nT] 31)).heap.size by simp); clear hb hb2 r0 r1))
          go_ret
          exact ⟨by rw [HO.out]; simp [e4], HB2.out⟩
      · have e3 : ((kK : Int) == 4) = false := by rw [beq_eq_false_iff_ne]; omega
        rw [if_neg hk4] at HO
        clear hk4
        go_enter Tryz.func29, Tryz.ntmps29
        go_wp2_with (first
          | (go_at_call 25; (with_reducible refine (HP.out _).mono ?_); rintro e w1 ⟨rfl, hb⟩; have hb2 := hb.alloc hb.size (.cells #[.int .u8 kK, .int .u32 kI, .string kN, .int .u32 kC] 75); have HB1 := Lib.hid (HB0.out.trans (hb2.mono HB0.out.size)); have HX1 := Lib.hid ((hb2.block _ HZ.out).trans HX0.out); have p1 : (w1.alloc (.cells #[.int .u8 kK, .int .u32 kI, .string kN, .int .u32 kC] 75)).cell? ⟨w1.heap.size, 1, none⟩ = some (.int .u32 (kI : Int)) := cell_of_row _ _ 1 _ _ _ (heap_alloc_new w1 (.cells #[.int .u8 kK, .int .u32 kI, .string kN, .int .u32 kC] 75)); have HK1 := Lib.hid (heap_alloc_new w1 (.cells #[.int .u8 kK, .int .u32 kI, .string kN, .int .u32 kC] 75)); have HKL := Lib.hid (show w1.heap.size < (w1.alloc (.cells #[.int .u8 kK, .int .u32 kI, .string kN, .int .u32 kC] 75)).heap.size by simp); have HCI := Lib.hid (HIN.out _ HB1.out); have HXL := Lib.hid (Nat.lt_of_lt_of_le HZ.out hb2.size); clear hb hb2)
          | (go_at_call 20; (with_reducible refine HCI.out.mono ?_); rintro e w2 ⟨rfl, hb⟩; have hb2 := hb.alloc hb.size (.cells #[.int .u8 nK, .int .u16 nM, .int .u32 nL, .int .u32 nS, .string nT] 31); have HB2 := Lib.hid (HB1.out.trans (hb2.mono HB1.out.size)); have r0 := (hb2.block _ HKL.out).trans HK1.out; have q0 : (w2.alloc (.cells #[.int .u8 nK, .int .u16 nM, .int .u32 nL, .int .u32 nS, .string nT] 31)).cell? ⟨w1.heap.size, 0, none⟩ = some (.int .u8 (kK : Int)) := cell_of_row _ _ 0 _ _ _ r0; have q3 : (w2.alloc (.cells #[.int .u8 nK, .int .u16 nM, .int .u32 nL, .int .u32 nS, .string nT] 31)).cell? ⟨w1.heap.size, 3, none⟩ = some (.int .u32 (kC : Int)) := cell_of_row _ _ 3 _ _ _ r0; have r1 := (hb2.block _ HXL.out).trans HX1.out; have HX2 := Lib.hid r1; have v1 : (w2.alloc (.cells #[.int .u8 nK, .int .u16 nM, .int .u32 nL, .int .u32 nS, .string nT] 31)).cell? ⟨w.heap.size, 1, none⟩ = some (.string xv) := cell_of_row _ _ 1 _ _ _ r1; have HN2 := Lib.hid (heap_alloc_new w2 (.cells #[.int .u8 nK, .int .u16 nM, .int .u32 nL, .int .u32 nS, .string nT] 31)); have n0 : (w2.alloc (.cells #[.int .u8 nK, .int .u16 nM, .int .u32 nL, .int .u32 nS, .string nT] 31)).cell? ⟨w2.heap.size, 0, none⟩ = some (.int .u8 (nK : Int)) := cell_of_row _ _ 0 _ _ _ (heap_alloc_new w2 (.cells #[.int .u8 nK, .int .u16 nM, .int .u32 nL, .int .u32 nS, .string nT] 31)); have n3 : (w2.alloc (.cells #[.int .u8 nK, .int .u16 nM, .int .u32 nL, .int .u32 nS, .string nT] 31)).cell? ⟨w2.heap.size, 3, none⟩ = some (.int .u32 (nS : Int)) := cell_of_row _ _ 3 _ _ _ (heap_alloc_new w2 (.cells #[.int .u8 nK, .int .u16 nM, .int .u32 nL, .int .u32 nS, .string nT] 31)); have HNL := Lib.hid (show w2.heap.size < (w2.alloc (.cells #[.int .u8 nK, .int .u16 nM, .int .u32 nL, .int .u32 nS, .string nT] 31)).heap.size by simp); clear hb hb2 r0 r1))
        go_ret
        exact ⟨by rw [HO.out]; rfl, HB2.out⟩
end Go.Proofs.YtngcogjjcidccaaGreat.Di
/- Contract of the document's Check (layer 14). -/
namespace Go.Proofs.YtngcogjjcidccaaGreat.Di
set_option linter.unusedVariables false
set_option linter.unusedSimpArgs false
set_option maxRecDepth 100000
open Go.ChangeShapes Go.WideShapes Go.ChangeAt Go.RowKit
open BigFrame
open Ar Rg
open Ino
open It (Itm)
variable {w w' wr : World} {L : List Itm}
/-- going up, as the document does: f: how many steps there may still be -/
def clm (L : List Itm) : Nat → Nat → Bool
  | 0, _ => false
  | f + 1, d => if d = 1 then true else clm L f (upR L d).2
/-- what is asked of an item beside one -/
def lnkR (L : List Itm) (x : Itm) : Bool := if (deK x.k).K ≠ 1 ∨ (deK x.k).I = 1 then true else
  decide ((upR L (deK x.k).I).1 = (inoR L (deK x.k).I).1.L) && (if (inoR L (deK x.k).I).1.K = 1 then clm L (L.length + 1) (upR L (deK x.k).I).2 else true)
/-- what the document's Check answers -/
def chkR (L : List Itm) : Int := if It.rt L = false then 9 else if (inoR L 1).2 = false then 9 else if (inoR L 1).1.K ≠ 1 then 9 else
  if L.all (oneR L) = false then 9 else if L.all (lnkR L) = false then 9 else 0
theorem all_snoc2 {α : Type} {D : List α} {f : α → Bool} {k : Nat} {x : α} (h : (D.take k).all f = true) (hx : D[k]? = some x) (hf : f x = true) : (D.take (k + 1)).all f = true := by
  rw [List.take_add_one, hx, List.all_append, h]
  simp [hf]
theorem all_no {α : Type} {D : List α} {f : α → Bool} {x : α} (hx : x ∈ D) (hf : f x = false) : D.all f = false := by
  rw [List.all_eq_false]
  exact ⟨x, hx, by rw [hf]; decide⟩
theorem upR_lt (h : It.rt L = true) (i : Nat) : (upR L i).1 ≤ L.length ∧ (upR L i).2 < 4294967296 := by
  have key : ∀ (D : List Itm) (a : Nat × Nat), a.2 < 4294967296 → (D.foldl (upF i) a).1 ≤ a.1 + D.length ∧ (D.foldl (upF i) a).2 < 4294967296 := by
    intro D
    induction D with
    | nil => intro a ha; exact ⟨Nat.le_refl _, ha⟩
    | cons x D ih =>
      intro a ha
      rw [List.foldl_cons, List.length_cons]
      have hx : (upF i a x).1 ≤ a.1 + 1 ∧ (upF i a x).2 < 4294967296 := by
        unfold upF
        split
        · refine ⟨Nat.le_refl _, ?_⟩
          by_cases h0 : deKE x.k = 0
          · exact (deK_ok h0).2.2.2.1
          · unfold deK
            unfold deKE at h0
            split
            · rename_i h1; rw [if_pos h1] at h0; exact absurd rfl h0
            · exact (by decide : (0 : Nat) < 4294967296)
        · exact ⟨Nat.le_succ _, ha⟩
      have := ih _ hx.2
      exact ⟨by omega, this.2⟩
  have := key L (0, 0) (by decide)
  unfold upR
  exact ⟨by omega, this.2⟩
theorem deK_lt (s : ByteArray) : (deK s).I < 4294967296 := by
  by_cases h0 : deKE s = 0
  · exact (deK_ok h0).2.2.2.1
  · unfold deK
    unfold deKE at h0
    split
    · rename_i h1; rw [if_pos h1] at h0; exact absurd rfl h0
    · exact (by decide : (0 : Nat) < 4294967296)
theorem refCK {A : Option Addr} {n : Nat} (h : ItA w A n L) (c : Nat) : Calls Tryz.prog 28 #[.slice A n c] w fun e w' => e = .returned (.int .i64 (if It.rt L = false then 4 else 0)) ∧ Below w.heap.size w w' := by
  have h2 := It.refCheck_any L A n c w.heap.size h.1 (by have := h.2.1; omega) w (Nat.le_refl _) h.2.2
  cases hr : It.rt L
  · rw [hr] at h2; exact h2
  · rw [hr] at h2; exact h2
set_option maxHeartbeats 8000000 in
theorem Check_R {A : Option Addr} {n : Nat} (c : Nat) (h : ItA w A n L) :
    Calls Tryz.prog 14 #[.slice A n c] w fun e w' => e = .returned (.int .i64 (chkR L)) ∧ Below w.heap.size w w' := by
  have HRC := Lib.hid (refCK h c)
  have HO := Lib.hid (show chkR L = if It.rt L = false then 9 else if (inoR L 1).2 = false then 9 else if (inoR L 1).1.K ≠ 1 then 9 else
    if L.all (oneR L) = false then 9 else if L.all (lnkR L) = false then 9 else 0 from rfl)
  generalize chkR L = res at *
  cases hrt : It.rt L
  · rw [hrt] at HRC HO
    rw [if_pos rfl] at HRC HO
    clear h hrt
    go_enter Tryz.func14, Tryz.ntmps14
    go_wp2_with (first
      | (go_at_call 28; (with_reducible refine (HRC.out).mono ?_); rintro e w1 ⟨rfl, hb⟩; have HB1 := Lib.hid hb; clear hb))
    go_ret
    exact ⟨by rw [HO.out]; rfl, HB1.out⟩
  · rw [hrt] at HRC HO
    rw [if_neg (by decide)] at HRC HO
    have HIN := Lib.hid (fun (wx : World) (hb : Below w.heap.size w wx) (i : Nat) (hi : i < 4294967296) => inode_R (w := wx) c i hi (h.go hb) hrt)
    have HUP := Lib.hid (fun (wx : World) (hb : Below w.heap.size w wx) (i : Nat) (hi : i < 4294967296) => up_R (w := wx) c i hi (h.go hb) hrt)
    have HON := Lib.hid (fun (wx : World) (hb : Below w.heap.size w wx) (x : Itm) (hx : x ∈ L) => one_R (w := wx) c x (h.go hb) hrt (rt_sizes hrt x hx))
    have HS := Lib.hid (rt_sizes hrt)
    have HN := Lib.hid h.1
    have HM := h.2.1
    have HL := Lib.hid h.2.2
    have HUL := Lib.hid (fun i => upR_lt hrt i)
    have HIL := Lib.hid (fun i => inoR_lim hrt i)
    clear h hrt
    obtain ⟨po, hpo⟩ : ∃ po, inoR L 1 = po := ⟨_, rfl⟩
    rw [hpo] at HO
    obtain ⟨⟨oK, oM, oL, oS, oT⟩, ob⟩ := po
    have HIR := Lib.hid (fun (wx : World) (hb : Below w.heap.size w wx) => show Calls Tryz.prog 20 #[.slice A n c, .int .u32 1] wx (fun e w' => e = .returned (.tuple #[.agg #[.int .u8 oK, .int .u16 oM, .int .u32 oL, .int .u32 oS, .string oT], .bool ob]) ∧ Below wx.heap.size wx w') by have := HIN.out wx hb 1 (by decide); rw [hpo] at this; exact this)
    dsimp only at HO
    clear hpo
    cases ob
    · rw [if_pos rfl] at HO
      go_enter Tryz.func14, Tryz.ntmps14
      go_wp2_with (first
        | (go_at_call 28; (with_reducible refine (HRC.out).mono ?_); rintro e w1 ⟨rfl, hb⟩; have HB1 := Lib.hid hb; clear hb)
        | (go_at_call 20; (with_reducible refine (HIR.out _ HB1.out).mono ?_); rintro e w2 ⟨rfl, hb⟩; have hb2 := hb.alloc hb.size (.cells #[.int .u8 oK, .int .u16 oM, .int .u32 oL, .int .u32 oS, .string oT] 31); have HB2 := Lib.hid (HB1.out.trans (hb2.mono HB1.out.size)); have o0 : (w2.alloc (.cells #[.int .u8 oK, .int .u16 oM, .int .u32 oL, .int .u32 oS, .string oT] 31)).cell? ⟨w2.heap.size, 0, none⟩ = some (.int .u8 (oK : Int)) := cell_of_row _ _ 0 _ _ _ (heap_alloc_new w2 (.cells #[.int .u8 oK, .int .u16 oM, .int .u32 oL, .int .u32 oS, .string oT] 31)); clear hb hb2))
      go_ret
      exact ⟨by rw [HO.out]; rfl, HB2.out⟩
    rw [if_neg (by decide)] at HO
    by_cases hok : oK ≠ 1
    · have e1 : ((oK : Int) != 1) = true := by rw [bne, eqz1 (decide_eq_false hok)]; rfl
      rw [if_pos hok] at HO
      clear hok
      go_enter Tryz.func14, Tryz.ntmps14
      go_wp2_with (first
        | (go_at_call 28; (with_reducible refine (HRC.out).mono ?_); rintro e w1 ⟨rfl, hb⟩; have HB1 := Lib.hid hb; clear hb)
        | (go_at_call 20; (with_reducible refine (HIR.out _ HB1.out).mono ?_); rintro e w2 ⟨rfl, hb⟩; have hb2 := hb.alloc hb.size (.cells #[.int .u8 oK, .int .u16 oM, .int .u32 oL, .int .u32 oS, .string oT] 31); have HB2 := Lib.hid (HB1.out.trans (hb2.mono HB1.out.size)); have o0 : (w2.alloc (.cells #[.int .u8 oK, .int .u16 oM, .int .u32 oL, .int .u32 oS, .string oT] 31)).cell? ⟨w2.heap.size, 0, none⟩ = some (.int .u8 (oK : Int)) := cell_of_row _ _ 0 _ _ _ (heap_alloc_new w2 (.cells #[.int .u8 oK, .int .u16 oM, .int .u32 oL, .int .u32 oS, .string oT] 31)); clear hb hb2))
      go_ret
      exact ⟨by rw [HO.out]; rfl, HB2.out⟩
    replace hok := Decidable.not_not.1 hok
    have e1 : ((oK : Int) != 1) = false := by rw [bne, eqz1 (decide_eq_true hok)]; rfl
    rw [if_neg (fun h => h hok)] at HO
    clear hok
    go_enter Tryz.func14, Tryz.ntmps14
    go_wp2_with (first
      | (go_at_call 28; (with_reducible refine (HRC.out).mono ?_); rintro e w1 ⟨rfl, hb⟩; have HB1 := Lib.hid hb; clear hb)
      | (go_at_call 20; (with_reducible refine (HIR.out _ HB1.out).mono ?_); rintro e w2 ⟨rfl, hb⟩; have hb2 := hb.alloc hb.size (.cells #[.int .u8 oK, .int .u16 oM, .int .u32 oL, .int .u32 oS, .string oT] 31); have HB2 := Lib.hid (HB1.out.trans (hb2.mono HB1.out.size)); have o0 : (w2.alloc (.cells #[.int .u8 oK, .int .u16 oM, .int .u32 oL, .int .u32 oS, .string oT] 31)).cell? ⟨w2.heap.size, 0, none⟩ = some (.int .u8 (oK : Int)) := cell_of_row _ _ 0 _ _ _ (heap_alloc_new w2 (.cells #[.int .u8 oK, .int .u16 oM, .int .u32 oL, .int .u32 oS, .string oT] 31)); clear hb hb2))
    go_loopw [33] (fun v wr => ∃ k : Nat, k ≤ n ∧ v = .int .i64 k ∧ Hid ((L.take k).all (oneR L) = true) ∧ Hid (Below w.heap.size w wr)) (fun v _ => n - (intOf v).toNat)
    case atStart => exact ⟨0, Nat.zero_le _, by go_num, rfl, HB2.out⟩
    case round =>
      clear o0 e1
      obtain ⟨k, hk, rfl, ha, hb⟩ := hrel
      have HA := Lib.hid (Hid.out ha)
      have HB := Lib.hid (Hid.out hb)
      clear ha hb
      by_cases hlt : k < n
      · obtain ⟨x, hx⟩ : ∃ x, L[k]? = some x := ⟨_, List.getElem?_eq_getElem (by rw [← HN.out]; exact hlt)⟩
        obtain ⟨b, o, hAe, c0, c1⟩ := rowI (HL.out.below HB.out) hx
        subst hAe
        have hmem := List.mem_of_getElem? hx
        have hal : Below wr.heap.size wr (wr.alloc (.cells #[.string x.k, .string x.v] 72)) := (Below.refl _ _).alloc (Nat.le_refl _) _
        have HBa := Lib.hid (HB.out.trans (hal.mono HB.out.size))
        have HQ := Lib.hid (heap_alloc_new wr (.cells #[.string x.k, .string x.v] 72))
        have HC := Lib.hid (HON.out _ HBa.out x hmem)
        obtain ⟨q, hq⟩ : ∃ q, oneR L x = q := ⟨_, rfl⟩
        rw [hq] at HC
        cases q
        · have hno := all_no hmem hq
          rw [hno, if_pos rfl] at HO
          clear hx hmem hal hq hno
          go_wp2_with (first
            | (refine wpList_load_row rfl 72 (.tmp 6) rfl wr.heap.size rfl 72 #[.string x.k, .string x.v] (0, 0) _ HQ.out Tryz.underlying72 rfl (by kernel_rfl) ?_)
            | (go_at_call 29; (with_reducible refine HC.out.mono ?_); rintro e w3 ⟨rfl, hb⟩; have HB3 := Lib.hid (HBa.out.trans (hb.mono HBa.out.size)); clear hb))
          go_ret
          exact ⟨by rw [HO.out]; rfl, HB3.out⟩
        · have HA2 := Lib.hid (all_snoc2 HA.out hx hq)
          clear hx hmem hal hq
          go_wp2_with (first
            | (refine wpList_load_row rfl 72 (.tmp 6) rfl wr.heap.size rfl 72 #[.string x.k, .string x.v] (0, 0) _ HQ.out Tryz.underlying72 rfl (by kernel_rfl) ?_)
            | (go_at_call 29; (with_reducible refine HC.out.mono ?_); rintro e w3 ⟨rfl, hb⟩; have HB3 := Lib.hid (HBa.out.trans (hb.mono HBa.out.size)); clear hb))
          exact ⟨⟨k + 1, by omega, by go_num, HA2.out, HB3.out⟩, by simp [intOf] <;> omega⟩
      · obtain rfl : k = n := by omega
        have hall := HA.out
        rw [HN.out, List.take_length] at hall
        rw [hall, if_neg (by decide)] at HO
        clear hall HA HON hlt hk
        go_wp2_with fail
        go_loopw [44] (fun v wr => ∃ k2 : Nat, k2 ≤ k ∧ v = .int .i64 k2 ∧ Hid ((L.take k2).all (lnkR L) = true) ∧ Hid (Below w.heap.size w wr)) (fun v _ => k - (intOf v).toNat)
        case atStart => exact ⟨0, Nat.zero_le _, by go_num, rfl, HB.out⟩
        case round =>
          obtain ⟨k2, hk2, rfl, ha, hb⟩ := hrel
          have HA := Lib.hid (Hid.out ha)
          have HBo := Lib.hid (Hid.out hb)
          clear ha hb
          by_cases hlt : k2 < k
          · obtain ⟨x, hx⟩ : ∃ x, L[k2]? = some x := ⟨_, List.getElem?_eq_getElem (by rw [← HN.out]; exact hlt)⟩
            obtain ⟨b, o, hAe, c0, c1⟩ := rowI (HL.out.below HBo.out) hx
            subst hAe
            have HMEM := Lib.hid (List.mem_of_getElem? hx)
            have hal : Below wr.heap.size wr (wr.alloc (.cells #[.string x.k, .string x.v] 72)) := (Below.refl _ _).alloc (Nat.le_refl _) _
            have HBa := Lib.hid (HBo.out.trans (hal.mono HBo.out.size))
            have k0 : (wr.alloc (.cells #[.string x.k, .string x.v] 72)).cell? ⟨wr.heap.size, 0, none⟩ = some (.string x.k) := cell_of_row _ _ 0 _ _ _ (heap_alloc_new wr (.cells #[.string x.k, .string x.v] 72))
            have HP := Lib.hid (fun (wx : World) => refParse_in x.k (Nat.le_trans (HS.out x HMEM.out).1 (by unfold maxLen; omega)) wx)
            have hkI := deK_lt x.k
            have HLN := Lib.hid (show lnkR L x = if (deK x.k).K ≠ 1 ∨ (deK x.k).I = 1 then true else
              decide ((upR L (deK x.k).I).1 = (inoR L (deK x.k).I).1.L) && (if (inoR L (deK x.k).I).1.K = 1 then clm L (L.length + 1) (upR L (deK x.k).I).2 else true) from rfl)
            have HNX := Lib.hid (fun (hf : lnkR L x = true) => all_snoc2 HA.out hx hf)
            have HNO := Lib.hid (fun (hf : lnkR L x = false) => all_no HMEM.out hf)
            generalize lnkR L x = T at *
            rw [← HN.out] at HLN
            generalize deKE x.k = kx at *
            generalize deK x.k = q at *
            obtain ⟨kK, kI, kN, kC⟩ := q
            unfold vK at HP
            dsimp only at HP HLN hkI
            clear hx hal
            by_cases hk1 : kK ≠ 1
            · have e1 : ((kK : Int) != 1) = true := by rw [bne, eqz1 (decide_eq_false hk1)]; rfl
              rw [if_pos (.inl hk1)] at HLN
              have HA2 := Lib.hid (HNX.out HLN.out)
              clear hk1
              go_wp2_with (go_at_call 25; (with_reducible refine (HP.out _).mono ?_); rintro e w3 ⟨rfl, hb⟩; have hb2 := hb.alloc hb.size (.cells #[.int .u8 kK, .int .u32 kI, .string kN, .int .u32 kC] 75); have HB3 := Lib.hid (HBa.out.trans (hb2.mono HBa.out.size)); have p0 : (w3.alloc (.cells #[.int .u8 kK, .int .u32 kI, .string kN, .int .u32 kC] 75)).cell? ⟨w3.heap.size, 0, none⟩ = some (.int .u8 (kK : Int)) := cell_of_row _ _ 0 _ _ _ (heap_alloc_new w3 (.cells #[.int .u8 kK, .int .u32 kI, .string kN, .int .u32 kC] 75)); have p1 : (w3.alloc (.cells #[.int .u8 kK, .int .u32 kI, .string kN, .int .u32 kC] 75)).cell? ⟨w3.heap.size, 1, none⟩ = some (.int .u32 (kI : Int)) := cell_of_row _ _ 1 _ _ _ (heap_alloc_new w3 (.cells #[.int .u8 kK, .int .u32 kI, .string kN, .int .u32 kC] 75)); have HK3 := Lib.hid (heap_alloc_new w3 (.cells #[.int .u8 kK, .int .u32 kI, .string kN, .int .u32 kC] 75)); have HKL := Lib.hid (show w3.heap.size < (w3.alloc (.cells #[.int .u8 kK, .int .u32 kI, .string kN, .int .u32 kC] 75)).heap.size by simp); clear hb hb2)
              exact ⟨⟨k2 + 1, by omega, by go_num, HA2.out, HB3.out⟩, by simp [intOf] <;> omega⟩
            replace hk1 := Decidable.not_not.1 hk1
            have e1 : ((kK : Int) != 1) = false := by rw [bne, eqz1 (decide_eq_true hk1)]; rfl
            by_cases hi1 : kI = 1
            · have e2 : ((kI : Int) == 1) = true := eqz1 (decide_eq_true hi1)
              rw [if_pos (.inr hi1)] at HLN
              have HA2 := Lib.hid (HNX.out HLN.out)
              clear hi1 hk1
              go_wp2_with (go_at_call 25; (with_reducible refine (HP.out _).mono ?_); rintro e w3 ⟨rfl, hb⟩; have hb2 := hb.alloc hb.size (.cells #[.int .u8 kK, .int .u32 kI, .string kN, .int .u32 kC] 75); have HB3 := Lib.hid (HBa.out.trans (hb2.mono HBa.out.size)); have p0 : (w3.alloc (.cells #[.int .u8 kK, .int .u32 kI, .string kN, .int .u32 kC] 75)).cell? ⟨w3.heap.size, 0, none⟩ = some (.int .u8 (kK : Int)) := cell_of_row _ _ 0 _ _ _ (heap_alloc_new w3 (.cells #[.int .u8 kK, .int .u32 kI, .string kN, .int .u32 kC] 75)); have p1 : (w3.alloc (.cells #[.int .u8 kK, .int .u32 kI, .string kN, .int .u32 kC] 75)).cell? ⟨w3.heap.size, 1, none⟩ = some (.int .u32 (kI : Int)) := cell_of_row _ _ 1 _ _ _ (heap_alloc_new w3 (.cells #[.int .u8 kK, .int .u32 kI, .string kN, .int .u32 kC] 75)); have HK3 := Lib.hid (heap_alloc_new w3 (.cells #[.int .u8 kK, .int .u32 kI, .string kN, .int .u32 kC] 75)); have HKL := Lib.hid (show w3.heap.size < (w3.alloc (.cells #[.int .u8 kK, .int .u32 kI, .string kN, .int .u32 kC] 75)).heap.size by simp); clear hb hb2)
              exact ⟨⟨k2 + 1, by omega, by go_num, HA2.out, HB3.out⟩, by simp [intOf] <;> omega⟩
            have e2 : ((kI : Int) == 1) = false := eqz1 (decide_eq_false hi1)
            rw [if_neg (fun h => h.elim (fun h => h hk1) hi1)] at HLN
            have HI2 := Lib.hid (fun (wx : World) (hb : Below w.heap.size w wx) => HIN.out wx hb kI hkI)
            have HU2 := Lib.hid (fun (wx : World) (hb : Below w.heap.size w wx) => HUP.out wx hb kI hkI)
            have hnl := (HIL.out kI).2.2.1
            have hul := HUL.out kI
            rw [← HN.out] at hul
            obtain ⟨pn, hpn⟩ : ∃ pn, inoR L kI = pn := ⟨_, rfl⟩
            obtain ⟨pu, hpu⟩ : ∃ pu, upR L kI = pu := ⟨_, rfl⟩
            rw [hpn] at HI2 HLN hnl
            rw [hpu] at HU2 HLN hul
            obtain ⟨⟨nK, nM, nL, nS, nT⟩, nb⟩ := pn
            obtain ⟨ct, d0⟩ := pu
            unfold vI at HI2
            dsimp only at HI2 HU2 HLN hnl hul
            have HDL := Lib.hid hul.2
            have hctl := hul.1
            clear hpn hpu hul hi1 hk1 HIN HIL
            have hw1 : IntKind.u64.wrap (ct : Int) = (ct : Int) := by rw [IntKind.wrap_u64]; omega
            have hw2 : IntKind.u64.wrap (nL : Int) = (nL : Int) := by rw [IntKind.wrap_u64]; omega
            by_cases hct : ct ≠ nL
            · have e3 : ((ct : Int) != (nL : Int)) = true := by rw [bne, eqz (decide_eq_false hct)]; rfl
              rw [decide_eq_false hct, Bool.false_and] at HLN
              rw [HNO.out HLN.out, if_pos rfl] at HO
              clear hct
              go_wp2_with (first
                | (go_at_call 25; (with_reducible refine (HP.out _).mono ?_); rintro e w3 ⟨rfl, hb⟩; have hb2 := hb.alloc hb.size (.cells #[.int .u8 kK, .int .u32 kI, .string kN, .int .u32 kC] 75); have HB3 := Lib.hid (HBa.out.trans (hb2.mono HBa.out.size)); have p0 : (w3.alloc (.cells #[.int .u8 kK, .int .u32 kI, .string kN, .int .u32 kC] 75)).cell? ⟨w3.heap.size, 0, none⟩ = some (.int .u8 (kK : Int)) := cell_of_row _ _ 0 _ _ _ (heap_alloc_new w3 (.cells #[.int .u8 kK, .int .u32 kI, .string kN, .int .u32 kC] 75)); have p1 : (w3.alloc (.cells #[.int .u8 kK, .int .u32 kI, .string kN, .int .u32 kC] 75)).cell? ⟨w3.heap.size, 1, none⟩ = some (.int .u32 (kI : Int)) := cell_of_row _ _ 1 _ _ _ (heap_alloc_new w3 (.cells #[.int .u8 kK, .int .u32 kI, .string kN, .int .u32 kC] 75)); have HK3 := Lib.hid (heap_alloc_new w3 (.cells #[.int .u8 kK, .int .u32 kI, .string kN, .int .u32 kC] 75)); have HKL := Lib.hid (show w3.heap.size < (w3.alloc (.cells #[.int .u8 kK, .int .u32 kI, .string kN, .int .u32 kC] 75)).heap.size by simp); clear hb hb2)
                | (go_at_call 20; (with_reducible refine (HI2.out _ HB3.out).mono ?_); rintro e w4 ⟨rfl, hb⟩; have hb2 := hb.alloc hb.size (.cells #[.int .u8 nK, .int .u16 nM, .int .u32 nL, .int .u32 nS, .string nT] 31); have HB4 := Lib.hid (HB3.out.trans (hb2.mono HB3.out.size)); have p1 : (w4.alloc (.cells #[.int .u8 nK, .int .u16 nM, .int .u32 nL, .int .u32 nS, .string nT] 31)).cell? ⟨w3.heap.size, 1, none⟩ = some (.int .u32 (kI : Int)) := cell_of_row _ _ 1 _ _ _ ((hb2.block _ HKL.out).trans HK3.out); have HN4 := Lib.hid (heap_alloc_new w4 (.cells #[.int .u8 nK, .int .u16 nM, .int .u32 nL, .int .u32 nS, .string nT] 31)); have HNL := Lib.hid (show w4.heap.size < (w4.alloc (.cells #[.int .u8 nK, .int .u16 nM, .int .u32 nL, .int .u32 nS, .string nT] 31)).heap.size by simp); clear hb hb2)
                | (go_at_call 30; (with_reducible refine (HU2.out _ HB4.out).mono ?_); rintro e w5 ⟨rfl, hb⟩; have HB5 := Lib.hid (HB4.out.trans (hb.mono HB4.out.size)); have HN5 := Lib.hid ((hb.block _ HNL.out).trans HN4.out); have HNL5 := Lib.hid (Nat.lt_of_lt_of_le HNL.out hb.size); have n0 : w5.cell? ⟨w4.heap.size, 0, none⟩ = some (.int .u8 (nK : Int)) := cell_of_row _ _ 0 _ _ _ HN5.out; have n2 : w5.cell? ⟨w4.heap.size, 2, none⟩ = some (.int .u32 (nL : Int)) := cell_of_row _ _ 2 _ _ _ HN5.out; clear hb))
              go_ret
              exact ⟨by rw [HO.out]; rfl, HB5.out⟩
            replace hct := Decidable.not_not.1 hct
            have e3 : ((ct : Int) != (nL : Int)) = false := by rw [bne, eqz (decide_eq_true hct)]; rfl
            rw [decide_eq_true hct, Bool.true_and] at HLN
            clear hct hnl hctl
            go_wp2_with (first
              | (go_at_call 25; (with_reducible refine (HP.out _).mono ?_); rintro e w3 ⟨rfl, hb⟩; have hb2 := hb.alloc hb.size (.cells #[.int .u8 kK, .int .u32 kI, .string kN, .int .u32 kC] 75); have HB3 := Lib.hid (HBa.out.trans (hb2.mono HBa.out.size)); have p0 : (w3.alloc (.cells #[.int .u8 kK, .int .u32 kI, .string kN, .int .u32 kC] 75)).cell? ⟨w3.heap.size, 0, none⟩ = some (.int .u8 (kK : Int)) := cell_of_row _ _ 0 _ _ _ (heap_alloc_new w3 (.cells #[.int .u8 kK, .int .u32 kI, .string kN, .int .u32 kC] 75)); have p1 : (w3.alloc (.cells #[.int .u8 kK, .int .u32 kI, .string kN, .int .u32 kC] 75)).cell? ⟨w3.heap.size, 1, none⟩ = some (.int .u32 (kI : Int)) := cell_of_row _ _ 1 _ _ _ (heap_alloc_new w3 (.cells #[.int .u8 kK, .int .u32 kI, .string kN, .int .u32 kC] 75)); have HK3 := Lib.hid (heap_alloc_new w3 (.cells #[.int .u8 kK, .int .u32 kI, .string kN, .int .u32 kC] 75)); have HKL := Lib.hid (show w3.heap.size < (w3.alloc (.cells #[.int .u8 kK, .int .u32 kI, .string kN, .int .u32 kC] 75)).heap.size by simp); clear hb hb2)
              | (go_at_call 20; (with_reducible refine (HI2.out _ HB3.out).mono ?_); rintro e w4 ⟨rfl, hb⟩; have hb2 := hb.alloc hb.size (.cells #[.int .u8 nK, .int .u16 nM, .int .u32 nL, .int .u32 nS, .string nT] 31); have HB4 := Lib.hid (HB3.out.trans (hb2.mono HB3.out.size)); have p1 : (w4.alloc (.cells #[.int .u8 nK, .int .u16 nM, .int .u32 nL, .int .u32 nS, .string nT] 31)).cell? ⟨w3.heap.size, 1, none⟩ = some (.int .u32 (kI : Int)) := cell_of_row _ _ 1 _ _ _ ((hb2.block _ HKL.out).trans HK3.out); have HN4 := Lib.hid (heap_alloc_new w4 (.cells #[.int .u8 nK, .int .u16 nM, .int .u32 nL, .int .u32 nS, .string nT] 31)); have HNL := Lib.hid (show w4.heap.size < (w4.alloc (.cells #[.int .u8 nK, .int .u16 nM, .int .u32 nL, .int .u32 nS, .string nT] 31)).heap.size by simp); clear hb hb2)
              | (go_at_call 30; (with_reducible refine (HU2.out _ HB4.out).mono ?_); rintro e w5 ⟨rfl, hb⟩; have HB5 := Lib.hid (HB4.out.trans (hb.mono HB4.out.size)); have HN5 := Lib.hid ((hb.block _ HNL.out).trans HN4.out); have HNL5 := Lib.hid (Nat.lt_of_lt_of_le HNL.out hb.size); have n0 : w5.cell? ⟨w4.heap.size, 0, none⟩ = some (.int .u8 (nK : Int)) := cell_of_row _ _ 0 _ _ _ HN5.out; have n2 : w5.cell? ⟨w4.heap.size, 2, none⟩ = some (.int .u32 (nL : Int)) := cell_of_row _ _ 2 _ _ _ HN5.out; clear hb))
            clear n0 n2 e3 hw1 hw2 e1 e2 k0 c0 c1
            go_loopw [14, 15] (fun v14 v15 wx => ∃ d s : Nat, s ≤ k + 1 ∧ d < 4294967296 ∧ v14 = .int .u32 d ∧ v15 = .int .i64 s ∧ Hid (T = if nK = 1 then clm L (k + 1 - s) d else true) ∧ Hid (nK ≠ 1 → s = 0) ∧ Hid (Below w5.heap.size w5 wx)) (fun _ v15 _ => k + 1 - (intOf v15).toNat)
            case atStart => exact ⟨d0, 0, Nat.zero_le _, HDL.out, by go_num, by go_num, HLN.out, fun _ => rfl, Below.refl _ _⟩
            case round =>
              rename_i wz
              obtain ⟨d, s, hs, hd, rfl, rfl, ht, hs0, hb⟩ := hrel
              have HT := Lib.hid (Hid.out ht)
              have HS0 := Lib.hid (Hid.out hs0)
              have HBi := Lib.hid (Hid.out hb)
              have HBz := Lib.hid (HB5.out.trans (HBi.out.mono HB5.out.size))
              have n0 : World.cell? _ ⟨w4.heap.size, 0, none⟩ = some (.int .u8 (nK : Int)) := (Below.cell (Hid.out hb) (p := ⟨w4.heap.size, 0, none⟩) HNL5.out).trans (cell_of_row _ _ 0 _ _ _ HN5.out)
              clear ht hs0 hb
              by_cases hn1 : nK = 1
              · have e4 : ((nK : Int) == 1) = true := eqz1 (decide_eq_true hn1)
                rw [if_pos hn1] at HT
                have HN1 := Lib.hid hn1
                clear hn1
                by_cases hs1 : s ≤ k
                · have e6 : decide ((k : Int) < (s : Int)) = false := decide_eq_false (by omega)
                  have e7 : decide ((s : Int) ≤ (k : Int)) = true := decide_eq_true (by omega)
                  rw [show k + 1 - s = (k - s) + 1 by omega] at HT
                  unfold clm at HT
                  by_cases hd1 : d = 1
                  · have e5 : ((d : Int) != 1) = false := by rw [bne, eqz1 (decide_eq_true hd1)]; rfl
                    rw [if_pos hd1] at HT
                    have HA2 := Lib.hid (HNX.out HT.out)
                    clear hd1
                    go_wp2_with fail
                    exact ⟨⟨k2 + 1, by omega, by go_num, HA2.out, HBz.out⟩, by simp [intOf] <;> omega⟩
                  · have e5 : ((d : Int) != 1) = true := by rw [bne, eqz1 (decide_eq_false hd1)]; rfl
                    rw [if_neg hd1] at HT
                    have HU3 := Lib.hid (HUP.out _ HBz.out d hd)
                    have HDL3 := Lib.hid (HUL.out d).2
                    generalize upR L d = pu at *
                    obtain ⟨ct3, d3⟩ := pu
                    dsimp only at HU3 HDL3 HT
                    clear hd1
                    go_wp2_with (go_at_call 30; (with_reducible refine HU3.out.mono ?_); rintro e w7 ⟨rfl, hb⟩; have HB7 := Lib.hid (HBi.out.trans (hb.mono HBi.out.size)); clear hb)
                    exact ⟨⟨d3, s + 1, by omega, HDL3.out, rfl, by go_num, by rw [show k + 1 - (s + 1) = k - s by omega]; rw [if_pos HN1.out]; exact HT.out, fun h => absurd HN1.out h, HB7.out⟩, by simp [intOf] <;> omega⟩
                · have e6 : decide ((k : Int) < (s : Int)) = true := decide_eq_true (by omega)
                  have e7 : decide ((s : Int) ≤ (k : Int)) = false := decide_eq_false (by omega)
                  rw [show k + 1 - s = 0 by omega] at HT
                  unfold clm at HT
                  rw [HNO.out HT.out, if_pos rfl] at HO
                  by_cases hd1 : d = 1
                  · have e5 : ((d : Int) != 1) = false := by rw [bne, eqz1 (decide_eq_true hd1)]; rfl
                    clear hd1
                    go_wp2_with fail
                    go_ret
                    exact ⟨by rw [HO.out]; rfl, HBz.out⟩
                  · have e5 : ((d : Int) != 1) = true := by rw [bne, eqz1 (decide_eq_false hd1)]; rfl
                    clear hd1
                    go_wp2_with fail
                    go_ret
                    exact ⟨by rw [HO.out]; rfl, HBz.out⟩
              · have e4 : ((nK : Int) == 1) = false := eqz1 (decide_eq_false hn1)
                rw [if_neg hn1] at HT
                have hs00 : s = 0 := HS0.out hn1
                subst hs00
                have e6 : decide ((k : Int) < ((0 : Nat) : Int)) = false := decide_eq_false (by omega)
                have HA2 := Lib.hid (HNX.out HT.out)
                clear hn1
                go_wp2_with fail
                exact ⟨⟨k2 + 1, by omega, by go_num, HA2.out, HBz.out⟩, by simp [intOf] <;> omega⟩
          · obtain rfl : k2 = k := by omega
            have hall := HA.out
            rw [HN.out, List.take_length] at hall
            rw [hall, if_neg (by decide)] at HO
            clear hall
            go_wp2_with fail
            go_ret
            exact ⟨by rw [HO.out]; rfl, HBo.out⟩
end Go.Proofs.YtngcogjjcidccaaGreat.Di
/- The document's Check of layer 14 says what the program's says. No walk of code here. -/
namespace Go.Proofs.YtngcogjjcidccaaGreat.Di
set_option linter.unusedVariables false
set_option linter.unusedSimpArgs false
open Ino
open It (Itm)
variable {L : List Itm}
theorem pig : ∀ (ks M : List Nat), ks.Nodup → (∀ j ∈ ks, j ∈ M) → ks.length ≤ M.length
  | [], M, _, _ => Nat.zero_le _
  | k :: ks, M, hn, hs => by
    obtain ⟨h1, h2⟩ := List.nodup_cons.1 hn
    have hk := hs k List.mem_cons_self
    have h3 := pig ks (M.erase k) h2 (fun j hj => (List.mem_erase_of_ne (fun e => h1 (by rw [← e]; exact hj))).2 (hs j (List.mem_cons_of_mem _ hj)))
    rw [List.length_erase_of_mem hk] at h3
    have h4 := List.length_pos_of_mem hk
    rw [List.length_cons]
    omega
theorem namR_ok {x : Itm} (h : okX x = true) (h2 : (deK x.k).K = 2) : namR x.v = numOf x.v ∧ 2 ≤ numOf x.v := by
  obtain ⟨h3, h4, h5⟩ := okP_2 (okX_1 h).2 h2
  unfold namR
  exact ⟨if_pos ⟨h3, h4, h5⟩, h5⟩
theorem upR_vo : ∀ (D : List Itm), (∀ x ∈ D, okX x = true) → ∀ i, (vo (pts D)).nmd i = (upR D i).1 % 4294967296 ∧ (vo (pts D)).abv i = (upR D i).2 := by
  intro D
  induction D using snocRec with
  | h0 => intro _ i; exact ⟨rfl, rfl⟩
  | h1 D x ih =>
    intro hok i
    obtain ⟨h1, h2⟩ := ih (fun y hy => hok y (List.mem_append_left _ hy)) i
    have hx := hok x (by simp)
    have e1 : pts (D ++ [x]) = pts D ++ [ptOf x] := by unfold pts; rw [List.map_append]; rfl
    have e2 : upR (D ++ [x]) i = upF i (upR D i) x := by unfold upR; rw [List.foldl_append]; rfl
    rw [e1, vo_snoc, e2]
    unfold takeP upF isU
    by_cases k1 : (deK x.k).K = 1
    · have k1' : (ptOf x).k.K = 1 := k1
      rw [if_pos k1', k1]
      exact ⟨h1, h2⟩
    · have k1' : ¬ (ptOf x).k.K = 1 := k1
      rw [if_neg k1']
      by_cases k2 : (deK x.k).K = 2
      · have k2' : (ptOf x).k.K = 2 := k2
        rw [if_pos k2', decide_eq_true k2, (namR_ok hx k2).1, Bool.true_and]
        unfold takeE
        dsimp only
        have e3 : (ptOf x).v = x.v := rfl
        rw [e3]
        by_cases hi : numOf x.v = i
        · rw [if_pos hi.symm, if_pos hi.symm, decide_eq_true hi, if_pos rfl]
          dsimp only
          refine ⟨?_, rfl⟩
          rw [h1]
          omega
        · have hi' : ¬ i = numOf x.v := fun e => hi e.symm
          rw [decide_eq_false hi, if_neg hi', if_neg hi']
          exact ⟨h1, h2⟩
      · have k2' : ¬ (ptOf x).k.K = 2 := k2
        rw [if_neg k2', decide_eq_false k2, Bool.false_and, if_neg (by decide)]
        exact ⟨h1, h2⟩
theorem clm_up (hok : ∀ x ∈ L, okX x = true) : ∀ (f d : Nat), clm L f d = true ↔ ∃ t, t < f ∧ up (vo (pts L)) t d = 1
  | 0, d => ⟨fun h => (by cases h), fun ⟨t, h, _⟩ => absurd h (Nat.not_lt_zero _)⟩
  | f + 1, d => by
    unfold clm
    by_cases hd : d = 1
    · rw [if_pos hd]
      exact ⟨fun _ => ⟨0, Nat.succ_pos _, hd⟩, fun _ => rfl⟩
    · rw [if_neg hd, clm_up hok f, ← (upR_vo L hok d).2]
      constructor
      · rintro ⟨t, h1, h2⟩
        exact ⟨t + 1, by omega, h2⟩
      · rintro ⟨t, h1, h2⟩
        cases t with
        | zero => exact absurd h2 hd
        | succ t => exact ⟨t, by omega, h2⟩
theorem ino_yes (h : It.rt L = true) (hok : ∀ x ∈ L, okX x = true) {i : Nat} (hi : i < 4294967296) (hb : (inoR L i).2 = true) : (vo (pts L)).ino i = some (inoR L i).1 := by rw [ino_R h hok hi, if_pos hb]
theorem ino_back (h : It.rt L = true) (hok : ∀ x ∈ L, okX x = true) {i : Nat} (hi : i < 4294967296) {n : In} (hn : (vo (pts L)).ino i = some n) : (inoR L i).2 = true ∧ (inoR L i).1 = n := by
  rw [ino_R h hok hi] at hn
  split at hn
  · rename_i hb; exact ⟨hb, Option.some.inj hn⟩
  · cases hn
/-- an entry's number is its own item's -/
theorem ent_own (h : It.rt L = true) (hok : ∀ x ∈ L, okX x = true) {x : Itm} (hx : x ∈ L) (h2 : (deK x.k).K = 2) : (vo (pts L)).ent (deK x.k) = some (numOf x.v) := by
  have h3 := ent_is (L := pts L) (p := ptOf x) (List.mem_map.2 ⟨x, hx, rfl⟩) h2
  have h3' : ((vo (pts L)).ent (deK x.k)).isSome = true := h3
  cases e : (vo (pts L)).ent (deK x.k) with
  | none => rw [e] at h3'; cases h3'
  | some j =>
    obtain ⟨p, hp, _, h5, rfl⟩ := ent_of _ e
    obtain ⟨y, hy, rfl⟩ := pts_mem hp
    have e1 := (deK_ok (okX_1 (hok x hx)).1).2.1
    have e2 := (deK_ok (okX_1 (hok y hy)).1).2.1
    have h5' : deK y.k = deK x.k := h5
    obtain rfl := key_once h hy hx (by rw [← e1, ← e2, h5'])
    rfl
theorem one_ok1 (h : It.rt L = true) {x : Itm} (hx : x ∈ L) (h1 : oneR L x = true) : okX x = true := by
  unfold oneR at h1
  by_cases h0 : deKE x.k ≠ 0
  · rw [if_pos h0] at h1; cases h1
  rw [if_neg h0] at h1
  have h0' := Decidable.not_not.1 h0
  obtain ⟨hk1, hk2, hk3⟩ := deK_ok h0'
  unfold okX
  rw [decide_eq_true h0', Bool.true_and]
  unfold okP
  have eK : (ptOf x).k = deK x.k := rfl
  have eV : (ptOf x).v = x.v := rfl
  rw [eK, eV]
  by_cases k1 : (deK x.k).K = 1
  · rw [if_neg (by omega), if_neg (by omega), if_neg (by omega)] at h1
    rw [if_pos k1]
    obtain ⟨h5, y, hy, h6, h7, _⟩ := inoR_yes h h1
    obtain ⟨h8, _⟩ := kI_of hk1 k1
    obtain rfl := key_once h hx hy (by rw [h6, ← h8, hk2])
    exact decide_eq_true h7
  rw [if_neg k1]
  by_cases k2 : (deK x.k).K = 2
  · rw [if_pos k2] at h1 ⊢
    simp only [Bool.and_eq_true] at h1
    obtain ⟨h5, _⟩ := inoR_yes h h1.2.2
    unfold namR at h5
    split at h5
    · rename_i hc
      simp only [Bool.and_eq_true, decide_eq_true_eq]
      exact hc
    · omega
  rw [if_neg k2] at h1 ⊢
  by_cases k3 : (deK x.k).K = 3
  · rw [if_pos k3] at h1 ⊢
    simp only [Bool.and_eq_true, decide_eq_true_eq, Bool.not_eq_true'] at h1 ⊢
    exact ⟨h1.2.2.1, h1.2.2.2.1, h1.2.2.2.2.1⟩
  rw [if_neg k3] at h1 ⊢
  by_cases k4 : (deK x.k).K = 4
  · rw [if_pos k4] at h1
    simp only [Bool.and_eq_true, decide_eq_true_eq] at h1 ⊢
    exact h1.2
  · rcases (okK_iff.1 hk1).2 with h5 | h5 | h5
    · exact absurd h5.1 k1
    · rcases h5.1 with h6 | h6
      · exact absurd h6 k2
      · exact absurd h6 k4
    · exact absurd h5.1 k3
theorem one_is (h : It.rt L = true) (hok : ∀ x ∈ L, okX x = true) {x : Itm} (hx : x ∈ L) (h1 : oneR L x = true) (h2 : lnkR L x = true) (hlen : L.length ≤ 1048576) : stray (vo (pts L)) (ptOf x) = false := by
  unfold oneR at h1
  have h0 := (okX_1 (hok x hx)).1
  rw [if_neg (fun e => e h0)] at h1
  obtain ⟨hk1, hk2, hk3⟩ := deK_ok h0
  have hI : (deK x.k).I < 4294967296 := hk3.2.1
  have hp : (inoR L (deK x.k).I).2 = true := by
    split at h1
    · simp only [Bool.and_eq_true] at h1; exact h1.1
    · split at h1
      · simp only [Bool.and_eq_true] at h1; exact h1.1
      · split at h1
        · simp only [Bool.and_eq_true] at h1; exact h1.1
        · exact h1
  unfold stray
  have eK : (ptOf x).k = deK x.k := rfl
  have eV : (ptOf x).v = x.v := rfl
  rw [eK, eV, ino_yes h hok hI hp]
  dsimp only
  by_cases k1 : (deK x.k).K = 1
  · rw [if_pos k1]
    unfold lnkR at h2
    by_cases i1 : (deK x.k).I = 1
    · rw [i1]; rfl
    · rw [if_neg (fun e => e.elim (fun e => e k1) i1)] at h2
      simp only [Bool.and_eq_true, decide_eq_true_eq] at h2
      have e1 := (upR_vo L hok (deK x.k).I).1
      have e2 := (upR_lt h (deK x.k).I).1
      rw [Bool.and_eq_false_iff]
      refine .inr (decide_eq_false (fun e => e ?_))
      rw [e1, ← h2.1]
      omega
  rw [if_neg k1]
  by_cases k2 : (deK x.k).K = 2
  · rw [if_pos k2] at h1 ⊢
    simp only [Bool.and_eq_true, decide_eq_true_eq] at h1
    rw [Bool.or_eq_false_iff]
    refine ⟨decide_eq_false (fun e => e h1.2.1), ?_⟩
    rw [ent_own h hok hx k2, Option.getD_some, ← (namR_ok (hok x hx) k2).1, ino_yes h hok (namR_lt _) h1.2.2]
    rfl
  rw [if_neg k2] at h1 ⊢
  by_cases k3 : (deK x.k).K = 3
  · rw [if_pos k3] at h1 ⊢
    simp only [Bool.and_eq_true, decide_eq_true_eq] at h1
    rw [Bool.or_eq_false_iff]
    exact ⟨decide_eq_false (fun e => e h1.2.1), decide_eq_false (by have := h1.2.2.2.2.2; omega)⟩
  · rw [if_neg k3]
theorem one_back (h : It.rt L = true) (hr : Right L) {x : Itm} (hx : x ∈ L) (hlen : L.length ≤ 1048576) : oneR L x = true ∧ lnkR L x = true := by
  have hok := hr.ok
  have hs := hr.str (ptOf x) (List.mem_map.2 ⟨x, hx, rfl⟩)
  have h0 := (okX_1 (hok x hx)).1
  have hop := (okX_1 (hok x hx)).2
  obtain ⟨hk1, hk2, hk3⟩ := deK_ok h0
  have hI : (deK x.k).I < 4294967296 := hk3.2.1
  obtain ⟨n, hn⟩ := stray_some hs
  have hn' : (vo (pts L)).ino (deK x.k).I = some n := hn
  obtain ⟨hp, hq⟩ := ino_back h hok hI hn'
  have eK : (ptOf x).k = deK x.k := rfl
  have eV : (ptOf x).v = x.v := rfl
  constructor
  · unfold oneR
    rw [if_neg (fun e => e h0), hp, hq]
    by_cases k2 : (deK x.k).K = 2
    · rw [if_pos k2]
      obtain ⟨s1, m, s2⟩ := stray_2 hs k2
      rw [eK, ent_own h hok hx k2, Option.getD_some, ← (namR_ok (hok x hx) k2).1] at s2
      rw [(ino_back h hok (namR_lt _) s2).1]
      unfold kind at s1
      rw [eK, hn'] at s1
      dsimp only at s1
      rw [s1]; rfl
    rw [if_neg k2]
    by_cases k3 : (deK x.k).K = 3
    · rw [if_pos k3]
      unfold stray at hs
      rw [hn] at hs
      dsimp only at hs
      rw [eK, eV, if_neg (by omega), if_neg k2, if_pos k3, Bool.or_eq_false_iff] at hs
      unfold okP at hop
      rw [eK, eV, if_neg (by omega), if_neg k2, if_pos k3] at hop
      simp only [Bool.and_eq_true, decide_eq_true_eq, Bool.not_eq_true'] at hop ⊢
      have s1 := of_decide_eq_false hs.1
      have s2 := of_decide_eq_false hs.2
      exact ⟨trivial, Decidable.not_not.1 s1, hop.1, hop.2.1, hop.2.2, by omega⟩
    rw [if_neg k3]
    by_cases k4 : (deK x.k).K = 4
    · rw [if_pos k4]
      unfold okP at hop
      rw [eK, eV, if_neg (by omega), if_neg k2, if_neg k3] at hop
      rw [hop]; rfl
    · rw [if_neg k4]
  · unfold lnkR
    by_cases k1 : (deK x.k).K ≠ 1 ∨ (deK x.k).I = 1
    · rw [if_pos k1]
    rw [if_neg k1]
    have k11 : (deK x.k).K = 1 := Decidable.not_not.1 (fun e => k1 (.inl e))
    have i1 : (deK x.k).I ≠ 1 := fun e => k1 (.inr e)
    have e1 := (upR_vo L hok (deK x.k).I)
    have e2 := (upR_lt h (deK x.k).I).1
    rw [hq]
    rcases stray_1 hs k11 hn with s1 | s1
    · exact absurd s1 i1
    · have s1' : (vo (pts L)).nmd (deK x.k).I = n.L := s1
      rw [e1.1] at s1'
      rw [decide_eq_true (show (upR L (deK x.k).I).1 = n.L by omega), Bool.true_and]
      by_cases nk : n.K = 1
      · rw [if_pos nk, clm_up hok, ← e1.2]
        have hc := chn_of (L := pts L) (fun p hp => by obtain ⟨y, hy, rfl⟩ := pts_mem hp; exact (okX_1 (hok y hy)).2) hr.str
        obtain ⟨t, h3, h4⟩ := up_soon hc (N := L.length) (i := (deK x.k).I) (fun ks hks hin => by
          have := pig ks ((pts L).map fun p => p.k.I) hks (fun j hj => by
            have h5 := hin j hj
            cases e : (vo (pts L)).ino j with
            | none => rw [e] at h5; cases h5
            | some m =>
              obtain ⟨p, hp, _, h6, _⟩ := ino_of _ e
              exact List.mem_map.2 ⟨p, hp, h6⟩)
          rw [List.length_map, pts_length] at this
          exact this) (by unfold kind; rw [hn']; exact nk) (hr.ups _ n hn' nk)
        cases t with
        | zero => exact absurd h4 i1
        | succ t => exact ⟨t, by omega, h4⟩
      · rw [if_neg nk]
/-- the document's Check says what the program's says -/
theorem chk_eq (hlen : L.length ≤ 1048576) : chkR L = ckE L := by
  unfold ckE chkR
  cases h : It.rt L
  · rw [if_pos rfl]
    have : rgt L = false := by
      rw [Bool.eq_false_iff]
      intro e
      have := (rgt_iff.1 e).rt
      rw [h] at this; cases this
    rw [this]; rfl
  rw [if_neg (by decide)]
  by_cases hr : Right L
  · rw [show (if rgt L = true then (0 : Int) else 9) = 0 by rw [rgt_iff.2 hr]; rfl]
    obtain ⟨n, hn, hk⟩ := kind_some (s := vo (pts L)) (i := 1) (by rw [hr.root]; decide)
    obtain ⟨a, b⟩ := ino_back h hr.ok (by decide) hn
    rw [a, if_neg (by decide), b, if_neg (by rw [hk, hr.root]; decide), List.all_eq_true.2 (fun x hx => (one_back h hr hx hlen).1), if_neg (by decide), List.all_eq_true.2 (fun x hx => (one_back h hr hx hlen).2), if_neg (by decide)]
  · have e : rgt L = false := by rw [Bool.eq_false_iff]; exact fun e => hr (rgt_iff.1 e)
    rw [show (if rgt L = true then (0 : Int) else 9) = 9 by rw [e]; rfl]
    by_cases a : (inoR L 1).2 = false
    · rw [if_pos a]
    rw [if_neg a]
    by_cases b : (inoR L 1).1.K ≠ 1
    · rw [if_pos b]
    rw [if_neg b]
    by_cases c : L.all (oneR L) = false
    · rw [if_pos c]
    rw [if_neg c]
    by_cases d : L.all (lnkR L) = false
    · rw [if_pos d]
    exfalso
    apply hr
    have a' : (inoR L 1).2 = true := by simpa using a
    have b' := Decidable.not_not.1 b
    have c' : ∀ x ∈ L, oneR L x = true := List.all_eq_true.1 (by simpa using c)
    have d' : ∀ x ∈ L, lnkR L x = true := List.all_eq_true.1 (by simpa using d)
    have hok : ∀ x ∈ L, okX x = true := fun x hx => one_ok1 h hx (c' x hx)
    refine ⟨h, hok, ?_, ?_, ?_⟩
    · unfold kind
      rw [ino_yes h hok (by decide) a']
      exact b'
    · intro p hp
      obtain ⟨x, hx, rfl⟩ := pts_mem hp
      exact one_is h hok hx (c' x hx) (d' x hx) hlen
    · intro i n hn nk
      by_cases i1 : i = 1
      · rw [i1]; exact Up.one _
      · obtain ⟨p, hp, h1, h2, h3⟩ := ino_of _ hn
        obtain ⟨x, hx, rfl⟩ := pts_mem hp
        have h1' : (deK x.k).K = 1 := h1
        have h2' : (deK x.k).I = i := h2
        have hl := d' x hx
        unfold lnkR at hl
        rw [if_neg (fun e => e.elim (fun e => e h1') (fun e => i1 (by rw [← h2', e]))), h2'] at hl
        simp only [Bool.and_eq_true, decide_eq_true_eq] at hl
        have hi : i < 4294967296 := by rw [← h2']; exact deK_lt _
        obtain ⟨_, hq⟩ := ino_back h hok hi hn
        have hl2 := hl.2
        rw [hq, if_pos nk, clm_up hok, ← (upR_vo L hok i).2] at hl2
        obtain ⟨t, _, ht⟩ := hl2
        exact ⟨t + 1, ht⟩
end Go.Proofs.YtngcogjjcidccaaGreat.Di
/- Contracts of the document's Get, Next, Entry (layer 14), in the program's words. -/
namespace Go.Proofs.YtngcogjjcidccaaGreat.Di
set_option linter.unusedVariables false
set_option linter.unusedSimpArgs false
set_option maxRecDepth 100000
open Go.ChangeShapes Go.WideShapes Go.ChangeAt Go.RowKit
open BigFrame
open Ar Rg
open Ino
open It (Itm)
variable {w w' wr : World} {L : List Itm}
theorem CheckR_any {A : Option Addr} {n : Nat} (c : Nat) (h : ItA w A n L) : Calls Tryz.prog 14 #[.slice A n c] w fun e w' => e = .returned (.int .i64 (ckE L)) ∧ Below w.heap.size w w' := by
  have h1 := Check_R c h
  rw [chk_eq (by have := h.1; have := h.2.1; omega)] at h1
  exact h1
theorem gt_R (hr : rgt L = true) {i : Nat} (hi : i < 4294967296) : gtI L i = (if (inoR L i).2 = true then (inoR L i).1 else zIn) ∧ gtE L i = (if (inoR L i).2 = true then 0 else 5) := by
  have h := rgt_iff.1 hr
  unfold gtI gtE
  rw [hr, if_pos rfl, if_pos rfl, ino_R h.rt h.ok hi]
  split
  · exact ⟨rfl, rfl⟩
  · exact ⟨rfl, rfl⟩
set_option maxHeartbeats 4000000 in
theorem Get_R {A : Option Addr} {n : Nat} (c i : Nat) (hi : i < 4294967296) (h : ItA w A n L) :
    Calls Tryz.prog 7 #[.slice A n c, .int .u32 (i : Int)] w fun e w' => e = .returned (.tuple #[vI (gtI L i), .int .i64 (gtE L i)]) ∧ Below w.heap.size w w' := by
  have hal : Below w.heap.size w (w.alloc (.cells #[.int .u8 0, .int .u16 0, .int .u32 0, .int .u32 0, .string ⟨#[]⟩] 31)) := (Below.refl _ _).alloc (Nat.le_refl _) _
  have HB0 := Lib.hid hal
  have HR0 := Lib.hid (heap_alloc_new w (.cells #[.int .u8 0, .int .u16 0, .int .u32 0, .int .u32 0, .string ⟨#[]⟩] 31))
  have HZ := Lib.hid (show w.heap.size < (w.alloc (.cells #[.int .u8 0, .int .u16 0, .int .u32 0, .int .u32 0, .string ⟨#[]⟩] 31)).heap.size by simp)
  have HC := Lib.hid (CheckR_any c (h.go hal))
  cases hr : rgt L
  · have e1 : ckE L = 9 := by unfold ckE; rw [hr]; rfl
    have e2 : gtI L i = zIn := by unfold gtI; rw [hr]; rfl
    have e3 : gtE L i = 9 := by unfold gtE; rw [hr]; rfl
    rw [e1] at HC
    rw [e2, e3]
    clear h hal hr e1 e2 e3
    go_enter Tryz.func7, Tryz.ntmps7
    go_wp2_with (first
      | (go_at_call 14; (with_reducible refine HC.out.mono ?_); rintro e w1 ⟨rfl, hb⟩; have HB1 := Lib.hid (HB0.out.trans (hb.mono HB0.out.size)); have HR1 := Lib.hid ((hb.block _ HZ.out).trans HR0.out); have HZ1 := Lib.hid (Nat.lt_of_lt_of_le HZ.out hb.size); clear hb)
      | (refine wpList_store_row rfl 31 (.tmp 4) (.tmp 11) rfl w.heap.size #[.int .u8 0, .int .u16 0, .int .u32 0, .int .u32 0, .string ⟨#[]⟩] rfl rfl 31 #[.int .u8 0, .int .u16 0, .int .u32 0, .int .u32 0, .string ⟨#[]⟩] HR1.out (by kernel_rfl) rfl (row5 _ _ _ _ _) ?_))
    refine bodyPost_ret (v := .tuple #[.agg #[.int .u8 0, .int .u16 0, .int .u32 0, .int .u32 0, .string ⟨#[]⟩], .int .i64 9]) (results_row2 rfl _ _ w.heap.size 31 #[.int .u8 0, .int .u16 0, .int .u32 0, .int .u32 0, .string ⟨#[]⟩] (0, 0) _ rfl (setRow_heap' HR1.out) Tryz.underlying31 rfl (by kernel_rfl) _ rfl) rfl ?_
    exact ⟨rfl, below_setRow HB1.out (Nat.le_refl _) _⟩
  · have e1 : ckE L = 0 := by unfold ckE; rw [hr]; rfl
    have hrt := (rgt_iff.1 hr).rt
    obtain ⟨e2, e3⟩ := gt_R hr hi
    rw [e1] at HC
    rw [e2, e3]
    have HI := Lib.hid (fun (wx : World) (hb : Below w.heap.size w wx) => inode_R (w := wx) c i hi (h.go hb) hrt)
    generalize inoR L i = pn at *
    obtain ⟨⟨nK, nM, nL, nS, nT⟩, nb⟩ := pn
    unfold vI at HI
    dsimp only at HI ⊢
    clear h hal hr e1 e2 e3 hrt
    cases nb
    · rw [if_neg (by decide), if_neg (by decide)]
      go_enter Tryz.func7, Tryz.ntmps7
      go_wp2_with (first
        | (go_at_call 14; (with_reducible refine HC.out.mono ?_); rintro e w1 ⟨rfl, hb⟩; have HB1 := Lib.hid (HB0.out.trans (hb.mono HB0.out.size)); have HR1 := Lib.hid ((hb.block _ HZ.out).trans HR0.out); have HZ1 := Lib.hid (Nat.lt_of_lt_of_le HZ.out hb.size); clear hb)
        | (go_at_call 20; (with_reducible refine (HI.out _ HB1.out).mono ?_); rintro e w2 ⟨rfl, hb⟩; have hb2 := hb.alloc hb.size (.cells #[.int .u8 nK, .int .u16 nM, .int .u32 nL, .int .u32 nS, .string nT] 31); have HB2 := Lib.hid (HB1.out.trans (hb2.mono HB1.out.size)); have HR2 := Lib.hid ((hb2.block _ HZ1.out).trans HR1.out); have HN2 := Lib.hid (heap_alloc_new w2 (.cells #[.int .u8 nK, .int .u16 nM, .int .u32 nL, .int .u32 nS, .string nT] 31)); clear hb hb2)
        | (refine wpList_store_row rfl 31 (.tmp 4) (.tmp 20) rfl w.heap.size #[.int .u8 0, .int .u16 0, .int .u32 0, .int .u32 0, .string ⟨#[]⟩] rfl rfl 31 #[.int .u8 0, .int .u16 0, .int .u32 0, .int .u32 0, .string ⟨#[]⟩] HR2.out (by kernel_rfl) rfl (row5 _ _ _ _ _) ?_))
      refine bodyPost_ret (v := .tuple #[.agg #[.int .u8 0, .int .u16 0, .int .u32 0, .int .u32 0, .string ⟨#[]⟩], .int .i64 5]) (results_row2 rfl _ _ w.heap.size 31 #[.int .u8 0, .int .u16 0, .int .u32 0, .int .u32 0, .string ⟨#[]⟩] (0, 0) _ rfl (setRow_heap' HR2.out) Tryz.underlying31 rfl (by kernel_rfl) _ rfl) rfl ?_
      exact ⟨rfl, below_setRow HB2.out (Nat.le_refl _) _⟩
    · rw [if_pos rfl, if_pos rfl]
      unfold vI
      dsimp only
      go_enter Tryz.func7, Tryz.ntmps7
      go_wp2_with (first
        | (go_at_call 14; (with_reducible refine HC.out.mono ?_); rintro e w1 ⟨rfl, hb⟩; have HB1 := Lib.hid (HB0.out.trans (hb.mono HB0.out.size)); have HR1 := Lib.hid ((hb.block _ HZ.out).trans HR0.out); have HZ1 := Lib.hid (Nat.lt_of_lt_of_le HZ.out hb.size); clear hb)
        | (go_at_call 20; (with_reducible refine (HI.out _ HB1.out).mono ?_); rintro e w2 ⟨rfl, hb⟩; have hb2 := hb.alloc hb.size (.cells #[.int .u8 nK, .int .u16 nM, .int .u32 nL, .int .u32 nS, .string nT] 31); have HB2 := Lib.hid (HB1.out.trans (hb2.mono HB1.out.size)); have HR2 := Lib.hid ((hb2.block _ HZ1.out).trans HR1.out); have HN2 := Lib.hid (heap_alloc_new w2 (.cells #[.int .u8 nK, .int .u16 nM, .int .u32 nL, .int .u32 nS, .string nT] 31)); clear hb hb2)
        | (refine wpList_load_row rfl 31 (.tmp 6) rfl w2.heap.size rfl 31 #[.int .u8 nK, .int .u16 nM, .int .u32 nL, .int .u32 nS, .string nT] (0, 0) _ HN2.out Tryz.underlying31 rfl (by kernel_rfl) ?_)
        | (refine wpList_store_row rfl 31 (.tmp 4) (.tmp 21) rfl w.heap.size #[.int .u8 nK, .int .u16 nM, .int .u32 nL, .int .u32 nS, .string nT] rfl rfl 31 #[.int .u8 0, .int .u16 0, .int .u32 0, .int .u32 0, .string ⟨#[]⟩] HR2.out (by kernel_rfl) rfl (row5 _ _ _ _ _) ?_))
      refine bodyPost_ret (v := .tuple #[.agg #[.int .u8 nK, .int .u16 nM, .int .u32 nL, .int .u32 nS, .string nT], .int .i64 0]) (results_row2 rfl _ _ w.heap.size 31 #[.int .u8 nK, .int .u16 nM, .int .u32 nL, .int .u32 nS, .string nT] (0, 0) _ rfl (setRow_heap' HR2.out) Tryz.underlying31 rfl (by kernel_rfl) _ rfl) rfl ?_
      exact ⟨rfl, below_setRow HB2.out (Nat.le_refl _) _⟩
theorem next_most {j : Nat} (h : ∀ k, 2 ≤ k → k < j → ((vo (pts L)).ino k).isSome = true) : j ≤ L.length + 2 := by
  have h1 := pig ((List.range (j - 2)).map (· + 2)) ((pts L).map fun p => p.k.I) (by
    rw [List.nodup_iff_pairwise_ne, List.pairwise_map]
    exact (List.pairwise_lt_range (n := j - 2)).imp (fun h e => by omega)) (fun x hx => by
    obtain ⟨k, hk, rfl⟩ := List.mem_map.1 hx
    have hk2 := List.mem_range.1 hk
    have h5 := h (k + 2) (by omega) (by omega)
    cases e : (vo (pts L)).ino (k + 2) with
    | none => rw [e] at h5; cases h5
    | some m =>
      obtain ⟨p, hp, _, h6, _⟩ := ino_of _ e
      exact List.mem_map.2 ⟨p, hp, h6⟩)
  rw [List.length_map, List.length_range, List.length_map, pts_length] at h1
  omega
set_option maxHeartbeats 4000000 in
theorem Next_R {A : Option Addr} {n : Nat} (c : Nat) (h : ItA w A n L) :
    Calls Tryz.prog 11 #[.slice A n c] w fun e w' => ∃ j, e = .returned (.tuple #[.int .u32 (j : Nat), .int .i64 (ckE L)]) ∧ (if rgt L then Nx (vo (pts L)) j else j = 0) ∧ Below w.heap.size w w' := by
  have HC := Lib.hid (CheckR_any c h)
  have hlen : L.length ≤ 1048576 := by have := h.1; have := h.2.1; omega
  cases hr : rgt L
  · have e1 : ckE L = 9 := by unfold ckE; rw [hr]; rfl
    have HCE := Lib.hid e1
    rw [e1] at HC
    clear h hr e1
    go_enter Tryz.func11, Tryz.ntmps11
    go_wp2_with (first
      | (go_at_call 14; (with_reducible refine HC.out.mono ?_); rintro e w1 ⟨rfl, hb⟩; have HB1 := Lib.hid hb; clear hb))
    go_ret2
    exact ⟨0, by rw [HCE.out]; rfl, rfl, HB1.out⟩
  · have e1 : ckE L = 0 := by unfold ckE; rw [hr]; rfl
    have HCE := Lib.hid e1
    rw [e1] at HC
    have hg := rgt_iff.1 hr
    have HI := Lib.hid (fun (wx : World) (hb : Below w.heap.size w wx) (i : Nat) (hi : i < 4294967296) => inode_R (w := wx) c i hi (h.go hb) hg.rt)
    have HIO := Lib.hid (fun (i : Nat) (hi : i < 4294967296) => ino_R hg.rt hg.ok hi)
    have HNM := Lib.hid (fun (j : Nat) => @next_most L j)
    clear h hr e1 hg
    go_enter Tryz.func11, Tryz.ntmps11
    go_wp2_with (first
      | (go_at_call 14; (with_reducible refine HC.out.mono ?_); rintro e w1 ⟨rfl, hb⟩; have HB1 := Lib.hid hb; clear hb))
    go_loopw [4] (fun v wr => ∃ j : Nat, 2 ≤ j ∧ j ≤ L.length + 2 ∧ v = .int .u32 (j : Int) ∧ Hid (∀ k, 2 ≤ k → k < j → ((vo (pts L)).ino k).isSome = true) ∧ Hid (Below w.heap.size w wr)) (fun v _ => L.length + 2 - (intOf v).toNat)
    case atStart => exact ⟨2, by omega, by omega, rfl, fun k h1 h2 => by omega, HB1.out⟩
    case round =>
      obtain ⟨j, hj2, hjn, rfl, hk, hb⟩ := hrel
      have HK := Lib.hid (Hid.out hk)
      have HB := Lib.hid (Hid.out hb)
      clear hk hb
      have hjl : j < 4294967296 := by omega
      have HIJ := Lib.hid (HI.out _ HB.out j hjl)
      have HIV := Lib.hid (HIO.out j hjl)
      generalize inoR L j = pn at *
      obtain ⟨⟨nK, nM, nL, nS, nT⟩, nb⟩ := pn
      unfold vI at HIJ
      dsimp only at HIJ HIV
      cases nb
      · have HNO := Lib.hid (show (vo (pts L)).ino j = none by rw [HIV.out, if_neg (by decide)])
        go_wp2_with (go_at_call 20; (with_reducible refine HIJ.out.mono ?_); rintro e w2 ⟨rfl, hb⟩; have HB2 := Lib.hid (HB.out.trans ((hb.alloc hb.size (.cells #[.int .u8 nK, .int .u16 nM, .int .u32 nL, .int .u32 nS, .string nT] 31)).mono HB.out.size)); clear hb)
        go_ret2
        exact ⟨j, by rw [HCE.out]; rfl, ⟨hj2, hjl, HNO.out, HK.out⟩, HB2.out⟩
      · have HK2 := Lib.hid (show ∀ k, 2 ≤ k → k < j + 1 → ((vo (pts L)).ino k).isSome = true from fun k h1 h2 => by
          by_cases e : k = j
          · rw [e, HIV.out, if_pos rfl]; rfl
          · exact HK.out k h1 (by omega))
        have hj3 := HNM.out (j + 1) HK2.out
        have hwr : IntKind.u32.wrap ((j : Int) + 1) = ((j + 1 : Nat) : Int) := by rw [IntKind.wrap_u32]; omega
        go_wp2_with (go_at_call 20; (with_reducible refine HIJ.out.mono ?_); rintro e w2 ⟨rfl, hb⟩; have HB2 := Lib.hid (HB.out.trans ((hb.alloc hb.size (.cells #[.int .u8 nK, .int .u16 nM, .int .u32 nL, .int .u32 nS, .string nT] 31)).mono HB.out.size)); clear hb)
        exact ⟨⟨j + 1, by omega, hj3, by go_num, HK2.out, HB2.out⟩, by simp [intOf] <;> omega⟩
end Go.Proofs.YtngcogjjcidccaaGreat.Di
/- Contract of the document's Entry (layer 14), in the program's words. -/
namespace Go.Proofs.YtngcogjjcidccaaGreat.Di
set_option linter.unusedVariables false
set_option linter.unusedSimpArgs false
set_option maxRecDepth 100000
open Go.ChangeShapes Go.WideShapes Go.ChangeAt Go.RowKit
open BigFrame
open Ar Rg
open Ino
open It (Itm)
variable {w w' wr : World} {L : List Itm}
/-- the number of an entry, or 0 -/
def entN (L : List Itm) (d : Nat) (y : ByteArray) : Nat := ((vo (pts L)).ent ⟨2, d, y, 0⟩).getD 0
theorem entN_yes (hr : rgt L = true) {d : Nat} {y : ByteArray} (hl : (⟨2, d, y, 0⟩ : Ky).lim) (ho : okK ⟨2, d, y, 0⟩ = true) {x : Itm} (hx : x ∈ L) (e : x.k = wrK ⟨2, d, y, 0⟩) : entN L d y = namR x.v := by
  have h := rgt_iff.1 hr
  have hk : deK x.k = ⟨2, d, y, 0⟩ := by rw [e]; exact (deK_back hl ho).1
  have h2 : (deK x.k).K = 2 := by rw [hk]
  have h3 := ent_own h.rt h.ok hx h2
  rw [hk] at h3
  unfold entN
  rw [h3, Option.getD_some, (namR_ok (h.ok x hx) h2).1]
theorem entN_no (hr : rgt L = true) {d : Nat} {y : ByteArray} (h0 : ∀ x ∈ L, okK ⟨2, d, y, 0⟩ = true → x.k = wrK ⟨2, d, y, 0⟩ → False) : entN L d y = 0 := by
  have h := rgt_iff.1 hr
  unfold entN
  cases e : (vo (pts L)).ent ⟨2, d, y, 0⟩ with
  | none => rfl
  | some j =>
    exfalso
    obtain ⟨p, hp, _, h5, _⟩ := ent_of _ e
    obtain ⟨x, hx, rfl⟩ := pts_mem hp
    obtain ⟨h6, h7, _⟩ := deK_ok (okX_1 (h.ok x hx)).1
    have h5' : deK x.k = ⟨2, d, y, 0⟩ := h5
    rw [h5'] at h6 h7
    exact h0 x hx h6 h7.symm
theorem inoR_get (hr : rgt L = true) {i : Nat} (hi : i < 4294967296) : (inoR L i).1 = ((vo (pts L)).ino i).getD zIn := by
  have h := rgt_iff.1 hr
  rw [ino_R h.rt h.ok hi]
  cases hb : (inoR L i).2
  · rw [if_neg (by decide)]
    show (inoR L i).1 = zIn
    unfold inoR at hb ⊢
    cases hf : L.find? (hasK (enK (kI i))) with
    | none => rfl
    | some y =>
      exfalso
      rw [hf] at hb
      have h1 := hasK_iff.1 (List.find?_some hf)
      have hy := List.mem_of_find?_eq_some hf
      have hi1 : 1 ≤ i := by
        rcases Nat.eq_zero_or_pos i with h2 | h2
        · subst h2
          rw [(chK_no kI_no).2] at h1
          exact absurd (by rw [h1]; rfl) (rt_key h.rt hy)
        · exact h2
      have h3 : y.k = wrK (kI i) := h1.trans (chK_yes (kI_ok hi1)).2
      have h4 : deK y.k = kI i := by rw [h3]; exact (deK_back (kI_lim hi) (kI_ok hi1)).1
      have h5 : deIE y.v = 0 := okP_1 (okX_1 (h.ok y hy)).2 (by show (deK y.k).K = 1; rw [h4]; rfl)
      dsimp only at hb
      rw [h5] at hb
      cases hb
  · rw [if_pos rfl]; rfl
set_option maxHeartbeats 4000000 in
theorem Entry_R {A : Option Addr} {n : Nat} (c d : Nat) (y : ByteArray) (hd : d < 4294967296) (hy : y.size ≤ maxLen) (h : ItA w A n L) (hr : rgt L = true) :
    Calls Tryz.prog 21 #[.slice A n c, .int .u32 (d : Int), .string y] w fun e w' => e = .returned (.int .u32 (entN L d y : Int)) ∧ Below w.heap.size w w' := by
  have hl : (⟨2, d, y, 0⟩ : Ky).lim := ⟨show (2 : Nat) < 256 by decide, hd, show (0 : Nat) < 4294967296 by decide⟩
  have HK := Lib.hid (fun (wx : World) => show Calls Tryz.prog 33 #[.agg #[.int .u8 2, .int .u32 (d : Int), .string y, .int .u32 0]] wx (fun e w' => e = .returned (.tuple #[.string (enK ⟨2, d, y, 0⟩), .int .i64 (chK ⟨2, d, y, 0⟩)]) ∧ Below wx.heap.size wx w') from refKey_in ⟨2, d, y, 0⟩ hl hy wx)
  have hg := rgt_iff.1 hr
  have HS := Lib.hid (rt_sizes hg.rt)
  have HN := Lib.hid h.1
  have HM := h.2.1
  have HL := Lib.hid h.2.2
  have HY := Lib.hid (fun (ho : okK ⟨2, d, y, 0⟩ = true) (x : Itm) (hx : x ∈ L) (e : x.k = enK ⟨2, d, y, 0⟩) => entN_yes hr hl ho hx (e.trans (chK_yes ho).2))
  have HNO := Lib.hid (fun (h0 : ∀ x ∈ L, okK ⟨2, d, y, 0⟩ = true → x.k = enK ⟨2, d, y, 0⟩ → False) => entN_no hr (fun x hx ho e => h0 x hx ho (e.trans (chK_yes ho).2.symm)))
  generalize entN L d y = res at *
  obtain ⟨K, hK⟩ : ∃ K, enK ⟨2, d, y, 0⟩ = K := ⟨_, rfl⟩
  rw [hK] at HK HY HNO
  clear h hr hg hl hy
  cases ho : okK ⟨2, d, y, 0⟩
  · rw [(chK_no ho).1] at HK
    have e0 : res = 0 := HNO.out (fun x _ h1 _ => by rw [ho] at h1; cases h1)
    subst e0
    clear ho hK
    go_enter Tryz.func21, Tryz.ntmps21
    go_wp2_with (go_at_call 33; (with_reducible refine (HK.out _).mono ?_); rintro e w1 ⟨rfl, hb⟩; have HB1 := Lib.hid hb; clear hb)
    go_loopw [20] (fun v wr => ∃ k : Nat, k ≤ n ∧ v = .int .i64 k ∧ Hid (Below w.heap.size w wr)) (fun v _ => n - (intOf v).toNat)
    case atStart => exact ⟨0, Nat.zero_le _, by go_num, HB1.out⟩
    case round =>
      obtain ⟨k, hk, rfl, hb⟩ := hrel
      have HB := Lib.hid (Hid.out hb)
      clear hb
      by_cases hlt : k < n
      · obtain ⟨x, hx⟩ : ∃ x, L[k]? = some x := ⟨_, List.getElem?_eq_getElem (by rw [← HN.out]; exact hlt)⟩
        obtain ⟨b, o, hAe, c0, c1⟩ := rowI (HL.out.below HB.out) hx
        subst hAe
        have HBa := Lib.hid (HB.out.alloc HB.out.size (.cells #[.string x.k, .string x.v] 72))
        clear hx
        go_wp2_with fail
        exact ⟨⟨k + 1, by omega, by go_num, HBa.out⟩, by simp [intOf] <;> omega⟩
      · go_wp2_with fail
        go_ret
        exact ⟨rfl, HB.out⟩
  · rw [(chK_yes ho).1] at HK
    have HYY := Lib.hid (HY.out ho)
    have HNN := Lib.hid (fun (h0 : ∀ x ∈ L.take L.length, hasK K x = false) => HNO.out (fun x hx _ e => by
      rw [List.take_length] at h0
      have h1 := h0 x hx
      rw [hasK_iff.2 e] at h1
      cases h1))
    clear ho hK HY HNO
    go_enter Tryz.func21, Tryz.ntmps21
    go_wp2_with (go_at_call 33; (with_reducible refine (HK.out _).mono ?_); rintro e w1 ⟨rfl, hb⟩; have HB1 := Lib.hid hb; clear hb)
    go_loopw [20] (fun v wr => ∃ k : Nat, k ≤ n ∧ v = .int .i64 k ∧ Hid (∀ x ∈ L.take k, hasK K x = false) ∧ Hid (Below w.heap.size w wr)) (fun v _ => n - (intOf v).toNat)
    case atStart => exact ⟨0, Nat.zero_le _, by go_num, fun x hx => (by cases hx), HB1.out⟩
    case round =>
      obtain ⟨k, hk, rfl, ha, hb⟩ := hrel
      have HA := Lib.hid (Hid.out ha)
      have HB := Lib.hid (Hid.out hb)
      clear ha hb
      by_cases hlt : k < n
      · obtain ⟨x, hx⟩ : ∃ x, L[k]? = some x := ⟨_, List.getElem?_eq_getElem (by rw [← HN.out]; exact hlt)⟩
        obtain ⟨b, o, hAe, c0, c1⟩ := rowI (HL.out.below HB.out) hx
        subst hAe
        have hmem := List.mem_of_getElem? hx
        have HBa := Lib.hid (HB.out.alloc HB.out.size (.cells #[.string x.k, .string x.v] 72))
        have HQ := Lib.hid (heap_alloc_new wr (.cells #[.string x.k, .string x.v] 72))
        have k0 : (wr.alloc (.cells #[.string x.k, .string x.v] 72)).cell? ⟨wr.heap.size, 0, none⟩ = some (.string x.k) := cell_of_row _ _ 0 _ _ _ (heap_alloc_new wr _)
        cases hf : hasK K x
        · have hf2 : (x.k.toList == K.toList) = false := hf
          have HA2 := Lib.hid (none_snoc HA.out hx hf)
          clear hf hx hmem
          go_wp2_with fail
          exact ⟨⟨k + 1, by omega, by go_num, HA2.out, HBa.out⟩, by simp [intOf] <;> omega⟩
        · have hf2 : (x.k.toList == K.toList) = true := hf
          have HE := Lib.hid (HYY.out x hmem (hasK_iff.1 hf))
          have HND := Lib.hid (fun (wx : World) => named_R (w := wx) x (Nat.le_trans (HS.out x hmem).2 (by unfold maxLen; omega)))
          clear hf hx hmem
          go_wp2_with (first
            | (refine wpList_load_row rfl 72 (.tmp 10) rfl wr.heap.size rfl 72 #[.string x.k, .string x.v] (0, 0) _ HQ.out Tryz.underlying72 rfl (by kernel_rfl) ?_)
            | (go_at_call 26; (with_reducible refine (HND.out _).mono ?_); rintro e w2 ⟨rfl, hb⟩; have HB2 := Lib.hid (HBa.out.trans (hb.mono HBa.out.size)); clear hb))
          go_ret
          exact ⟨by rw [HE.out]; rfl, HB2.out⟩
      · have hkn : k = L.length := by have := HN.out; omega
        subst hkn
        have HE := Lib.hid (HNN.out HA.out)
        go_wp2_with fail
        go_ret
        exact ⟨by rw [HE.out]; rfl, HB.out⟩
end Go.Proofs.YtngcogjjcidccaaGreat.Di
/- Contract of the document's Walk (layer 14), in the program's words. -/
namespace Go.Proofs.YtngcogjjcidccaaGreat.Di
set_option linter.unusedVariables false
set_option linter.unusedSimpArgs false
set_option maxRecDepth 100000
open Go.ChangeShapes Go.WideShapes Go.ChangeAt Go.RowKit
open BigFrame
open Ar Rg
open Ino
open It (Itm)
open Ph (en1 en1_len en1_one MkS infoS catS spX spB)
variable {w w' wr : World} {L : List Itm}
section
variable {P : Program}
/-- a new row of nothing -/
theorem run_slice0 (w : World) (S e : TypeId) (i : TypeInfo) (hS : P.underlying S = some (.slice e)) (hi : P.info? e = some i) :
    (Instr.buildSlice S 0 #[]).run P w = .ok (.slice (some ⟨w.heap.size, 0, none⟩) 0 0) (w.alloc (.cells #[] e)) := by
  have hu := run_underlying (P := P) hS w
  have hso := run_sizeOf (P := P) w hi
  unfold Instr.buildSlice
  rw [Sem.run_bind, hu, Result.andThen_ok]
  simp only []
  rw [Sem.run_bind, hso, Result.andThen_ok]
  simp only [Nat.zero_mul]
  rw [if_neg (by omega), if_pos trivial]
  simp only [pure_bind]
  rw [Instr.fill.eq_1]
  have hr0 : Array.range 0 = #[] := by simp
  simp [newRow, newObj, hr0]
  rfl
variable {o : Oper} {a : Act} {K : Act → World → Prop} {Q : Exit → Act → World → Prop} {ops : Array Oper} {rest : List Oper}
theorem op_slice0 {w : World} (S e : TypeId) (i : TypeInfo) (ho : o.op = .buildSlice S 0 #[]) (hS : P.underlying S = some (.slice e)) (hi : P.info? e = some i)
    (h : K (a.put o.dst (.slice (some ⟨w.heap.size, 0, none⟩) 0 0)) (w.alloc (.cells #[] e))) : Oper.wp P o a w K Q := by
  unfold Oper.wp execOp
  simp only [ho, List.map_toArray, List.map_nil, Sem.run_bind, Sem.run_pure, Result.andThen_ok, run_slice0 w S e i hS hi]
  exact h
end
/-- a row of no strings -/
theorem op_noS {o : Oper} {a : Act} {K : Act → World → Prop} {Q : Exit → Act → World → Prop} {wb : World} (hb : Below wb.heap.size wb wr) (ho : o.op = .buildSlice 23 0 #[])
    (h : MkS wb (wr.alloc (.cells #[] 9)) (.slice (some ⟨wr.heap.size, 0, none⟩) 0 0) [] → K (a.put o.dst (.slice (some ⟨wr.heap.size, 0, none⟩) 0 0)) (wr.alloc (.cells #[] 9))) : Oper.wp Tryz.prog o a wr K Q := by
  obtain ⟨i0, hi, _⟩ := info_parts infoS
  exact op_slice0 23 9 i0 ho Tryz.underlying23 hi (h ⟨World.ownsRow_made wr #[] 0 hb.size (Nat.zero_le _) (by simp), hb.alloc hb.size _⟩)
theorem wpList_noS {ops : Array Oper} {rest : List Oper} {o : Oper} {a : Act} {Q : Exit → Act → World → Prop} {wb : World} (hb : Below wb.heap.size wb wr) (hgd : o.guard = none) (ho : o.op = .buildSlice 23 0 #[])
    (h : MkS wb (wr.alloc (.cells #[] 9)) (.slice (some ⟨wr.heap.size, 0, none⟩) 0 0) [] → wpList Tryz.prog ops Q rest (a.put o.dst (.slice (some ⟨wr.heap.size, 0, none⟩) 0 0)) (wr.alloc (.cells #[] 9))) : wpList Tryz.prog ops Q (o :: rest) a wr :=
  wpList_plain hgd fun K hK => op_noS hb ho (fun h' => hK _ _ (h h'))
theorem inoR_T (h : It.rt L = true) (i : Nat) : (inoR L i).1.T.size ≤ maxLen := by
  unfold inoR
  cases hf : L.find? (hasK (enK (kI i))) with
  | none => exact Nat.zero_le _
  | some y => exact (deI_lim y.v (Nat.le_trans (rt_sizes h y (List.mem_of_find?_eq_some hf)).2 (by unfold maxLen; omega))).2
theorem entN_some (hr : rgt L = true) {d : Nat} {y : ByteArray} (h : entN L d y ≠ 0) : (vo (pts L)).ent ⟨2, d, y, 0⟩ = some (entN L d y) := by
  unfold entN at h ⊢
  cases e : (vo (pts L)).ent ⟨2, d, y, 0⟩ with
  | none => rw [e] at h; exact absurd rfl h
  | some j => rfl
theorem entN_none (hr : rgt L = true) {d : Nat} {y : ByteArray} (h : entN L d y = 0) : (vo (pts L)).ent ⟨2, d, y, 0⟩ = none := by
  unfold entN at h
  cases e : (vo (pts L)).ent ⟨2, d, y, 0⟩ with
  | none => rfl
  | some j =>
    rw [e] at h
    obtain ⟨p, hp, h2, _, h3⟩ := ent_of _ e
    have := (okP_2 (rgt_parts hr p hp).2.1 h2).2.2
    have h' : j = 0 := h
    omega
theorem entN_lt (L : List Itm) (d : Nat) (y : ByteArray) : entN L d y < 4294967296 := by
  unfold entN
  cases e : (vo (pts L)).ent ⟨2, d, y, 0⟩ with
  | none => exact (by decide : (0 : Nat) < 4294967296)
  | some j =>
    obtain ⟨p, _, _, _, h3⟩ := ent_of _ e
    rw [Option.getD_some, h3]
    exact numOf_lt _
set_option maxHeartbeats 8000000 in
theorem Walk_R {A A' : Option Addr} {n n' c' : Nat} (c : Nat) (fo : Bool) {names : List ByteArray} (h : ItA w A n L) (hN : NmA w A' n' c' names) :
    Calls Tryz.prog 5 #[.slice A n c, .slice A' n' c', .bool fo] w fun e w' => e = .returned (.tuple #[.int .u32 ((wlk L fo names).1 : Nat), .int .i64 (wlk L fo names).2]) ∧ Below w.heap.size w w' := by
  have HC := Lib.hid (CheckR_any c h)
  have HNM := Lib.hid hN
  obtain ⟨q, hq⟩ : ∃ q, wlk L fo names = q := ⟨_, rfl⟩
  rw [hq]
  have HQ := Lib.hid hq
  unfold wlk at HQ
  clear hN hq
  cases hr : rgt L
  · rw [hr] at HQ
    obtain rfl : (0, 9) = q := HQ.out
    have e1 : ckE L = 9 := by unfold ckE; rw [hr]; rfl
    rw [e1] at HC
    clear h hr e1 HQ
    go_enter Tryz.func5, Tryz.ntmps5
    go_wp2_with (first
      | (go_at_call 14; (with_reducible refine HC.out.mono ?_); rintro e w1 ⟨rfl, hb⟩; have HB1 := Lib.hid hb; clear hb))
    go_ret2
    exact ⟨rfl, HB1.out⟩
  · rw [hr] at HQ
    have e1 : ckE L = 0 := by unfold ckE; rw [hr]; rfl
    rw [e1] at HC
    have hg := rgt_iff.1 hr
    have HI := Lib.hid (fun (wx : World) (hb : Below w.heap.size w wx) (i : Nat) (hi : i < 4294967296) => inode_R (w := wx) c i hi (h.go hb) hg.rt)
    have HEY := Lib.hid (fun (wx : World) (hb : Below w.heap.size w wx) (d : Nat) (y : ByteArray) (hd : d < 4294967296) (hy : y.size ≤ maxLen) => Entry_R (w := wx) c d y hd hy (h.go hb) hr)
    have HGT := Lib.hid (fun (i : Nat) (hi : i < 4294967296) => inoR_get hr hi)
    have HGS := Lib.hid (fun (i : Nat) => inoR_T hg.rt i)
    have HES := Lib.hid (fun (d : Nat) (y : ByteArray) (h0 : entN L d y ≠ 0) => entN_some hr h0)
    have HE0 := Lib.hid (fun (d : Nat) (y : ByteArray) (h0 : entN L d y = 0) => entN_none hr h0)
    obtain ⟨R1, R2⟩ := q
    have HR0 := Lib.hid (show wkL (vo (pts L)) fo 8 1 names = (R1, R2) from HQ.out)
    obtain ⟨s, hs⟩ : ∃ s, vo (pts L) = s := ⟨_, rfl⟩
    rw [hs] at HGT HES HE0 HR0
    clear hr HQ hg h e1 hs
    dsimp only
    go_enter Tryz.func5, Tryz.ntmps5
    go_wp2_with (first
      | (go_at_call 14; (with_reducible refine HC.out.mono ?_); rintro e w1 ⟨rfl, hb⟩; have HB1 := Lib.hid hb; clear hb)
      | (refine wpList_noS (wb := w1) (Below.refl _ _) rfl rfl ?_; intro hM; have HM1 := Lib.hid hM; have HN1 := Lib.hid (HNM.out.2.2.2.2.1.below (HB1.out.trans (hM.2.mono HB1.out.size))); clear hM)
      | (refine catS HM1.out names A' n' c' HNM.out.1 HN1.out (by have := HNM.out.1; have := HNM.out.2.2.2.1; simp only [List.length_nil]; omega) rfl _ _ rfl rfl rfl ?_; intro v0 w0 hm0 hg0; simp only [List.nil_append] at hm0; obtain ⟨A0, c0, rfl, h01, h02, h03⟩ := hm0.ls en1_len; have HL0 := Lib.hid h03; have HC0' := Lib.hid (And.intro h01 h02); have HB0 := Lib.hid (HB1.out.trans (hm0.2.mono HB1.out.size)); clear hm0 hg0 h01 h02 h03))
    go_loopw [8, 9, 10] (fun v8 v9 v1 wr => ∃ (a r l n1 c1 : Nat) (A1 : Option Addr) (xs : List ByteArray), v8 = .int .u32 (a : Int) ∧ v9 = .int .i64 (l : Int) ∧ v1 = .slice A1 n1 c1 ∧ l + r = 8 ∧ a < 4294967296 ∧ n1 + 256 * r ≤ 2097152 ∧ Hid (n1 = xs.length) ∧ Hid (n1 ≤ c1 ∧ c1 ≤ maxLen) ∧ Hid (Ls en1 1 wr wr.heap.size A1 xs) ∧ Hid (∀ x ∈ xs, x.size ≤ maxLen) ∧ Hid (wkL s fo r a xs = (R1, R2)) ∧ Hid (Below w.heap.size w wr)) (fun v8 v9 v1 _ => 300 * (8 - (intOf v9).toNat) + slN v1)
    case atStart => exact ⟨1, 8, 0, names.length, c0, A0, names, rfl, rfl, rfl, rfl, by decide, by have := HNM.out.1; have := HNM.out.2.2.2.1; omega, rfl, HC0'.out, HL0.out, HNM.out.2.2.2.2.2, HR0.out, HB0.out⟩
    case round =>
      obtain ⟨a, r, l, n1, c1, A1, xs, rfl, rfl, rfl, hlr, ha, hb, hx1, hx2, hx3, hx4, hx5, hx6⟩ := hrel
      have HX1 := Lib.hid (Hid.out hx1)
      have HX2 := Lib.hid (Hid.out hx2)
      have HX3 := Lib.hid (Hid.out hx3)
      have HX4 := Lib.hid (Hid.out hx4)
      have HX5 := Lib.hid (Hid.out hx5)
      have HB := Lib.hid (Hid.out hx6)
      clear hx1 hx2 hx3 hx4 hx5 hx6 HR0 HL0 HC0' HNM HC
      by_cases hn0 : n1 = 0
      · subst hn0
        have hnil : xs = [] := List.eq_nil_of_length_eq_zero HX1.out.symm
        subst hnil
        have HE := Lib.hid (wk_nil HX5.out)
        go_wp2_with fail
        go_ret2
        exact ⟨by rw [show R1 = a from HE.out.1, show R2 = 0 from HE.out.2]; rfl, HB.out⟩
      · obtain ⟨x, xs, rfl⟩ : ∃ x ys, xs = x :: ys := by
          cases xs with
          | nil => exact absurd HX1.out hn0
          | cons x ys => exact ⟨x, ys, rfl⟩
        obtain ⟨m, rfl⟩ : ∃ m, n1 = m + 1 := ⟨n1 - 1, by omega⟩
        have HIA := Lib.hid (HI.out _ HB.out a ha)
        have HKA := Lib.hid (show kind s a = (inoR L a).1.K by rw [kind_get, HGT.out a ha])
        generalize inoR L a = pn at *
        obtain ⟨⟨nK, nM, nL, nS, nT⟩, nb⟩ := pn
        unfold vI at HIA
        dsimp only at HIA HKA
        clear hn0
        obtain ⟨b0, o0, hA1, hb0, hr0⟩ := HX3.out 0 x rfl
        subst hA1
        have E0 := Lib.hid (show wr.cell? ⟨b0, o0, none⟩ = some (.string x) by have := hr0 0 _ rfl; rw [Nat.zero_mul, Nat.add_zero] at this; exact this)
        clear hr0
        by_cases hk : nK ≠ 1
        · have e1 : ((nK : Int) != 1) = true := by rw [bne, eqz1 (decide_eq_false hk)]; rfl
          have HE := Lib.hid (wk_file HX5.out (by rw [HKA.out]; exact hk))
          clear hk
          go_wp2_with (go_at_call 20; (with_reducible refine HIA.out.mono ?_); rintro e w2 ⟨rfl, hb⟩; have hb2 := hb.alloc hb.size (.cells #[.int .u8 nK, .int .u16 nM, .int .u32 nL, .int .u32 nS, .string nT] 31); have HW2 := Lib.hid hb2; have n0 : (w2.alloc (.cells #[.int .u8 nK, .int .u16 nM, .int .u32 nL, .int .u32 nS, .string nT] 31)).cell? ⟨w2.heap.size, 0, none⟩ = some (.int .u8 (nK : Int)) := cell_of_row _ _ 0 _ _ _ (heap_alloc_new w2 (.cells #[.int .u8 nK, .int .u16 nM, .int .u32 nL, .int .u32 nS, .string nT] 31)); clear hb hb2)
          go_ret2
          exact ⟨by rw [show R1 = 0 from HE.out.1, show R2 = 12 from HE.out.2]; rfl, HB.out.trans (HW2.out.mono HB.out.size)⟩
        replace hk := Decidable.not_not.1 hk
        have HK1 := Lib.hid (HKA.out.trans hk)
        have e1 : ((nK : Int) != 1) = false := by rw [bne, eqz1 (decide_eq_true hk)]; rfl
        clear hk
        have HEN := Lib.hid (fun (wx : World) (hb : Below w.heap.size w wx) => HEY.out wx hb a x ha (HX4.out x (by simp)))
        have HES2 := Lib.hid (HES.out a x)
        have HE02 := Lib.hid (HE0.out a x)
        have hjl := entN_lt L a x
        generalize entN L a x = j at *
        by_cases hj0 : j = 0
        · have e2 : ((j : Int) == 0) = true := eqz0 (decide_eq_true hj0)
          have HE := Lib.hid (wk_none HX5.out HK1.out (HE02.out hj0))
          clear hj0
          go_wp2_with (first
            | (go_at_call 20; (with_reducible refine HIA.out.mono ?_); rintro e w2 ⟨rfl, hb⟩; have hb2 := hb.alloc hb.size (.cells #[.int .u8 nK, .int .u16 nM, .int .u32 nL, .int .u32 nS, .string nT] 31); have HW2 := Lib.hid hb2; have HRN := Lib.hid (heap_alloc_new w2 (.cells #[.int .u8 nK, .int .u16 nM, .int .u32 nL, .int .u32 nS, .string nT] 31)); have HQL := Lib.hid (show wr.heap.size ≤ w2.heap.size from hb.size); have n0 : (w2.alloc (.cells #[.int .u8 nK, .int .u16 nM, .int .u32 nL, .int .u32 nS, .string nT] 31)).cell? ⟨w2.heap.size, 0, none⟩ = some (.int .u8 (nK : Int)) := cell_of_row _ _ 0 _ _ _ (heap_alloc_new w2 (.cells #[.int .u8 nK, .int .u16 nM, .int .u32 nL, .int .u32 nS, .string nT] 31)); have e0 : (w2.alloc (.cells #[.int .u8 nK, .int .u16 nM, .int .u32 nL, .int .u32 nS, .string nT] 31)).cell? ⟨b0, o0, none⟩ = some (.string x) := (Below.cell hb2 (p := ⟨b0, o0, none⟩) hb0).trans E0.out; have HQ2 := Lib.hid (show w2.heap.size < (w2.alloc (.cells #[.int .u8 nK, .int .u16 nM, .int .u32 nL, .int .u32 nS, .string nT] 31)).heap.size by simp); clear hb hb2)
            | (go_at_call 21; (with_reducible refine (HEN.out _ (HB.out.trans (HW2.out.mono HB.out.size))).mono ?_); rintro e w4 ⟨rfl, hb⟩; have HW4 := Lib.hid (HW2.out.trans (hb.mono HW2.out.size)); have HRN4 := Lib.hid ((hb.block _ HQ2.out).trans HRN.out); have HQ4 := Lib.hid (Nat.lt_of_lt_of_le HQ2.out hb.size); clear hb))
          go_ret2
          exact ⟨by rw [show R1 = 0 from HE.out.1, show R2 = 5 from HE.out.2]; rfl, HB.out.trans (HW4.out.mono HB.out.size)⟩
        have e2 : ((j : Int) == 0) = false := eqz0 (decide_eq_false hj0)
        have HEJ := Lib.hid (HES2.out hj0)
        clear hj0
        obtain ⟨A2, hA2⟩ : ∃ A2, (if c1 = 1 then some (⟨b0, o0, none⟩ : Addr) else some ⟨b0, o0 + 1, none⟩) = A2 := ⟨_, rfl⟩
        have HXD := Lib.hid (fun (wx : World) (hb : Below wr.heap.size wr wx) => show Ls en1 1 wx wx.heap.size A2 xs from by
          have h1 := ((HX3.out.below hb).more hb.size).drop (p := 1) HX1.out HX2.out.1 (by omega)
          have h2 : (if c1 = 1 then some (⟨b0, o0, none⟩ : Addr) else (some (⟨b0, o0, none⟩ : Addr)).map (·.add (1 * 1))) = A2 := by
            rw [← hA2]
            split
            · rfl
            · rw [Option.map_some, Nat.mul_one, Ar.add_plain]
          rw [h2] at h1
          exact h1)
        have hcc : 1 ≤ c1 := by have := HX2.out.1; omega
        have HIJ := Lib.hid (fun (wx : World) (hb : Below w.heap.size w wx) => HI.out wx hb j hjl)
        have HKJ := Lib.hid (show kind s j = (inoR L j).1.K by rw [kind_get, HGT.out j hjl])
        have HTJ := Lib.hid (show tgtOf s j = (inoR L j).1.T by rw [tgt_get, HGT.out j hjl])
        have HTS := Lib.hid (HGS.out j)
        generalize inoR L j = pj at *
        obtain ⟨⟨jK, jM, jL, jS, jT⟩, jb⟩ := pj
        unfold vI at HIJ
        dsimp only at HIJ HKJ HTJ HTS
        have HEM := Lib.hid (show xs.isEmpty = decide (m = 0) by have := HX1.out; cases xs with | nil => (simp at this; simp [this]) | cons y ys => (simp at this; simp [this]))
        have HX6 := Lib.hid (show m = xs.length by have := HX1.out; simpa using this)
        have HX7 := Lib.hid (show m ≤ c1 - 1 ∧ c1 - 1 ≤ maxLen by have := HX2.out; omega)
        have HX8s := Lib.hid (show ∀ y ∈ xs, y.size ≤ maxLen from fun y hy => HX4.out y (List.mem_cons_of_mem _ hy))
        clear HX1 HX2 HX4 HEY HI HGT HGS HES HE0
        by_cases h3 : jK = 3
        · have e3 : ((jK : Int) != 3) = false := by rw [bne, eqz3 (decide_eq_true h3)]; rfl
          have H3 := Lib.hid (HKJ.out.trans h3)
          clear h3
          by_cases hgo : m = 0 ∧ fo = false
          · obtain ⟨hm0, rfl⟩ := hgo
            have e4 : ((m : Int) == 0) = true := eqz0 (decide_eq_true hm0)
            have HON := Lib.hid (wk_on HX5.out HK1.out HEJ.out (by rw [HEM.out, decide_eq_true hm0]; simp))
            clear hm0
            go_wp2_with (first
              | (go_at_call 20; (with_reducible refine HIA.out.mono ?_); rintro e w2 ⟨rfl, hb⟩; have hb2 := hb.alloc hb.size (.cells #[.int .u8 nK, .int .u16 nM, .int .u32 nL, .int .u32 nS, .string nT] 31); have HW2 := Lib.hid hb2; have HRN := Lib.hid (heap_alloc_new w2 (.cells #[.int .u8 nK, .int .u16 nM, .int .u32 nL, .int .u32 nS, .string nT] 31)); have HQL := Lib.hid (show wr.heap.size ≤ w2.heap.size from hb.size); have n0 : (w2.alloc (.cells #[.int .u8 nK, .int .u16 nM, .int .u32 nL, .int .u32 nS, .string nT] 31)).cell? ⟨w2.heap.size, 0, none⟩ = some (.int .u8 (nK : Int)) := cell_of_row _ _ 0 _ _ _ (heap_alloc_new w2 (.cells #[.int .u8 nK, .int .u16 nM, .int .u32 nL, .int .u32 nS, .string nT] 31)); have e0 : (w2.alloc (.cells #[.int .u8 nK, .int .u16 nM, .int .u32 nL, .int .u32 nS, .string nT] 31)).cell? ⟨b0, o0, none⟩ = some (.string x) := (Below.cell hb2 (p := ⟨b0, o0, none⟩) hb0).trans E0.out; have HQ2 := Lib.hid (show w2.heap.size < (w2.alloc (.cells #[.int .u8 nK, .int .u16 nM, .int .u32 nL, .int .u32 nS, .string nT] 31)).heap.size by simp); clear hb hb2)
              | (go_at_call 21; (with_reducible refine (HEN.out _ (HB.out.trans (HW2.out.mono HB.out.size))).mono ?_); rintro e w4 ⟨rfl, hb⟩; have HW4 := Lib.hid (HW2.out.trans (hb.mono HW2.out.size)); have HRN4 := Lib.hid ((hb.block _ HQ2.out).trans HRN.out); have HQ4 := Lib.hid (Nat.lt_of_lt_of_le HQ2.out hb.size); clear hb)
              | (go_at_call 20; (with_reducible refine (HIJ.out _ (HB.out.trans (HW4.out.mono HB.out.size))).mono ?_); rintro e w5 ⟨rfl, hb⟩; have HW5 := Lib.hid (below_setRow (HW4.out.trans (hb.mono HW4.out.size)) HQL.out #[.int .u8 jK, .int .u16 jM, .int .u32 jL, .int .u32 jS, .string jT]); have HRN5 := Lib.hid ((hb.block _ HQ4.out).trans HRN4.out); have j0 : (w5.setRow w2.heap.size #[.int .u8 jK, .int .u16 jM, .int .u32 jL, .int .u32 jS, .string jT]).cell? ⟨w2.heap.size, 0, none⟩ = some (.int .u8 (jK : Int)) := cell_of_row _ _ 0 _ _ _ (setRow_heap' HRN5.out); have j4 : (w5.setRow w2.heap.size #[.int .u8 jK, .int .u16 jM, .int .u32 jL, .int .u32 jS, .string jT]).cell? ⟨w2.heap.size, 4, none⟩ = some (.string jT) := cell_of_row _ _ 4 _ _ _ (setRow_heap' HRN5.out); have HBf := Lib.hid (HB.out.trans (HW5.out.mono HB.out.size)); have HXf := Lib.hid (HXD.out _ HW5.out); clear hb)
              | (refine wpList_store_row rfl 31 (.tmp 11) (.tmp 48) rfl w2.heap.size #[.int .u8 jK, .int .u16 jM, .int .u32 jL, .int .u32 jS, .string jT] rfl rfl 31 #[.int .u8 nK, .int .u16 nM, .int .u32 nL, .int .u32 nS, .string nT] HRN5.out (by kernel_rfl) rfl (row5 _ _ _ _ _) ?_))
            exact ⟨⟨j, r, l, m, c1 - 1, A2, xs, rfl, rfl, rfl, hlr, hjl, by omega, HX6.out, HX7.out, HXf.out, HX8s.out, HON.out, HBf.out⟩, by simp [slN, intOf]⟩
          · have HC0 := Lib.hid (show (decide (kind s j ≠ 3) || (xs.isEmpty && !fo)) = false by
              rw [HEM.out, H3.out]
              cases fo
              · rw [decide_eq_false (fun h => hgo ⟨h, rfl⟩)]; rfl
              · rw [Bool.not_true, Bool.and_false]; rfl)
            by_cases hm0 : m = 0
            · have e4 : ((m : Int) == 0) = true := eqz0 (decide_eq_true hm0)
              obtain rfl : true = fo := by
                cases fo
                · exact absurd ⟨hm0, rfl⟩ hgo
                · rfl
              clear hm0 hgo
              by_cases hr0 : r = 0
              · subst hr0
                have e5 : ((l : Int) == 8) = true := eqz (b := 8) (decide_eq_true (by omega))
                have HE := Lib.hid (wk_loop HX5.out HK1.out HEJ.out HC0.out)
                go_wp2_with (first
                  | (go_at_call 20; (with_reducible refine HIA.out.mono ?_); rintro e w2 ⟨rfl, hb⟩; have hb2 := hb.alloc hb.size (.cells #[.int .u8 nK, .int .u16 nM, .int .u32 nL, .int .u32 nS, .string nT] 31); have HW2 := Lib.hid hb2; have HRN := Lib.hid (heap_alloc_new w2 (.cells #[.int .u8 nK, .int .u16 nM, .int .u32 nL, .int .u32 nS, .string nT] 31)); have HQL := Lib.hid (show wr.heap.size ≤ w2.heap.size from hb.size); have n0 : (w2.alloc (.cells #[.int .u8 nK, .int .u16 nM, .int .u32 nL, .int .u32 nS, .string nT] 31)).cell? ⟨w2.heap.size, 0, none⟩ = some (.int .u8 (nK : Int)) := cell_of_row _ _ 0 _ _ _ (heap_alloc_new w2 (.cells #[.int .u8 nK, .int .u16 nM, .int .u32 nL, .int .u32 nS, .string nT] 31)); have e0 : (w2.alloc (.cells #[.int .u8 nK, .int .u16 nM, .int .u32 nL, .int .u32 nS, .string nT] 31)).cell? ⟨b0, o0, none⟩ = some (.string x) := (Below.cell hb2 (p := ⟨b0, o0, none⟩) hb0).trans E0.out; have HQ2 := Lib.hid (show w2.heap.size < (w2.alloc (.cells #[.int .u8 nK, .int .u16 nM, .int .u32 nL, .int .u32 nS, .string nT] 31)).heap.size by simp); clear hb hb2)
                  | (go_at_call 21; (with_reducible refine (HEN.out _ (HB.out.trans (HW2.out.mono HB.out.size))).mono ?_); rintro e w4 ⟨rfl, hb⟩; have HW4 := Lib.hid (HW2.out.trans (hb.mono HW2.out.size)); have HRN4 := Lib.hid ((hb.block _ HQ2.out).trans HRN.out); have HQ4 := Lib.hid (Nat.lt_of_lt_of_le HQ2.out hb.size); clear hb)
                  | (go_at_call 20; (with_reducible refine (HIJ.out _ (HB.out.trans (HW4.out.mono HB.out.size))).mono ?_); rintro e w5 ⟨rfl, hb⟩; have HW5 := Lib.hid (below_setRow (HW4.out.trans (hb.mono HW4.out.size)) HQL.out #[.int .u8 jK, .int .u16 jM, .int .u32 jL, .int .u32 jS, .string jT]); have HRN5 := Lib.hid ((hb.block _ HQ4.out).trans HRN4.out); have j0 : (w5.setRow w2.heap.size #[.int .u8 jK, .int .u16 jM, .int .u32 jL, .int .u32 jS, .string jT]).cell? ⟨w2.heap.size, 0, none⟩ = some (.int .u8 (jK : Int)) := cell_of_row _ _ 0 _ _ _ (setRow_heap' HRN5.out); have j4 : (w5.setRow w2.heap.size #[.int .u8 jK, .int .u16 jM, .int .u32 jL, .int .u32 jS, .string jT]).cell? ⟨w2.heap.size, 4, none⟩ = some (.string jT) := cell_of_row _ _ 4 _ _ _ (setRow_heap' HRN5.out); have HBf := Lib.hid (HB.out.trans (HW5.out.mono HB.out.size)); have HXf := Lib.hid (HXD.out _ HW5.out); clear hb)
                  | (refine wpList_store_row rfl 31 (.tmp 11) (.tmp 48) rfl w2.heap.size #[.int .u8 jK, .int .u16 jM, .int .u32 jL, .int .u32 jS, .string jT] rfl rfl 31 #[.int .u8 nK, .int .u16 nM, .int .u32 nL, .int .u32 nS, .string nT] HRN5.out (by kernel_rfl) rfl (row5 _ _ _ _ _) ?_))
                go_ret2
                exact ⟨by rw [show R1 = 0 from HE.out.1, show R2 = 15 from HE.out.2]; rfl, HBf.out⟩
              · obtain ⟨r, rfl⟩ : ∃ k, r = k + 1 := ⟨r - 1, by omega⟩
                have e5 : ((l : Int) == 8) = false := eqz (b := 8) (decide_eq_false (by omega))
                have HSP := Lib.hid (fun w => Ph.refSplit_any jT HTS.out w)
                have HWB := Lib.hid (fun h => wk_bad HX5.out HK1.out HEJ.out HC0.out h)
                have HWL := Lib.hid (fun h => wk_link HX5.out HK1.out HEJ.out HC0.out h)
                rw [HTJ.out] at HWB HWL
                have HSN := Lib.hid (sp_sizes (p := jT))
                have HSL := Lib.hid (spB_len jT)
                unfold Ph.SplitPost at HSP
                generalize spB jT = D at *
                generalize spX jT = sx at *
                clear hr0
                by_cases hsx : sx = 0
                · have e6 : (sx != 0) = false := by rw [bne, eq0, decide_eq_true hsx]; rfl
                  have HL2 := Lib.hid (HWL.out hsx)
                  have HDS := Lib.hid (HSN.out hsx)
                  have hwl : IntKind.i64.wrap ((l : Int) + 1) = ((l + 1 : Nat) : Int) := by rw [show ((l + 1 : Nat) : Int) = (l : Int) + 1 by omega]; exact IntWalk.i64_in _ ⟨by omega, by omega⟩
                  clear hsx
                  go_wp2_with (first
                    | (go_at_call 20; (with_reducible refine HIA.out.mono ?_); rintro e w2 ⟨rfl, hb⟩; have hb2 := hb.alloc hb.size (.cells #[.int .u8 nK, .int .u16 nM, .int .u32 nL, .int .u32 nS, .string nT] 31); have HW2 := Lib.hid hb2; have HRN := Lib.hid (heap_alloc_new w2 (.cells #[.int .u8 nK, .int .u16 nM, .int .u32 nL, .int .u32 nS, .string nT] 31)); have HQL := Lib.hid (show wr.heap.size ≤ w2.heap.size from hb.size); have n0 : (w2.alloc (.cells #[.int .u8 nK, .int .u16 nM, .int .u32 nL, .int .u32 nS, .string nT] 31)).cell? ⟨w2.heap.size, 0, none⟩ = some (.int .u8 (nK : Int)) := cell_of_row _ _ 0 _ _ _ (heap_alloc_new w2 (.cells #[.int .u8 nK, .int .u16 nM, .int .u32 nL, .int .u32 nS, .string nT] 31)); have e0 : (w2.alloc (.cells #[.int .u8 nK, .int .u16 nM, .int .u32 nL, .int .u32 nS, .string nT] 31)).cell? ⟨b0, o0, none⟩ = some (.string x) := (Below.cell hb2 (p := ⟨b0, o0, none⟩) hb0).trans E0.out; have HQ2 := Lib.hid (show w2.heap.size < (w2.alloc (.cells #[.int .u8 nK, .int .u16 nM, .int .u32 nL, .int .u32 nS, .string nT] 31)).heap.size by simp); clear hb hb2)
                    | (go_at_call 21; (with_reducible refine (HEN.out _ (HB.out.trans (HW2.out.mono HB.out.size))).mono ?_); rintro e w4 ⟨rfl, hb⟩; have HW4 := Lib.hid (HW2.out.trans (hb.mono HW2.out.size)); have HRN4 := Lib.hid ((hb.block _ HQ2.out).trans HRN.out); have HQ4 := Lib.hid (Nat.lt_of_lt_of_le HQ2.out hb.size); clear hb)
                    | (go_at_call 20; (with_reducible refine (HIJ.out _ (HB.out.trans (HW4.out.mono HB.out.size))).mono ?_); rintro e w5 ⟨rfl, hb⟩; have HW5 := Lib.hid (below_setRow (HW4.out.trans (hb.mono HW4.out.size)) HQL.out #[.int .u8 jK, .int .u16 jM, .int .u32 jL, .int .u32 jS, .string jT]); have HRN5 := Lib.hid ((hb.block _ HQ4.out).trans HRN4.out); have j0 : (w5.setRow w2.heap.size #[.int .u8 jK, .int .u16 jM, .int .u32 jL, .int .u32 jS, .string jT]).cell? ⟨w2.heap.size, 0, none⟩ = some (.int .u8 (jK : Int)) := cell_of_row _ _ 0 _ _ _ (setRow_heap' HRN5.out); have j4 : (w5.setRow w2.heap.size #[.int .u8 jK, .int .u16 jM, .int .u32 jL, .int .u32 jS, .string jT]).cell? ⟨w2.heap.size, 4, none⟩ = some (.string jT) := cell_of_row _ _ 4 _ _ _ (setRow_heap' HRN5.out); have HBf := Lib.hid (HB.out.trans (HW5.out.mono HB.out.size)); have HXf := Lib.hid (HXD.out _ HW5.out); clear hb)
                    | (refine wpList_store_row rfl 31 (.tmp 11) (.tmp 48) rfl w2.heap.size #[.int .u8 jK, .int .u16 jM, .int .u32 jL, .int .u32 jS, .string jT] rfl rfl 31 #[.int .u8 nK, .int .u16 nM, .int .u32 nL, .int .u32 nS, .string nT] HRN5.out (by kernel_rfl) rfl (row5 _ _ _ _ _) ?_)
                    | (go_at_call 22; (with_reducible refine (HSP.out _).mono ?_); rintro e w7 ⟨v7, rfl, hm7⟩; obtain ⟨A7, c7, rfl, h71, h72, h73⟩ := hm7.ls en1_len; have HD7 := Lib.hid h73; have HX9 := Lib.hid ((HXf.out.below hm7.2).more hm7.2.size); have HB7 := Lib.hid (HBf.out.trans (hm7.2.mono HBf.out.size)); clear hm7 h71 h72 h73)
                    | (refine wpList_noS (wb := w7) (Below.refl _ _) rfl rfl ?_; intro hM; have HM8 := Lib.hid hM; have HD8 := Lib.hid (HD7.out.below hM.2); have HX8 := Lib.hid (HX9.out.below hM.2); clear hM)
                    | (refine catS HM8.out D A7 D.length c7 rfl HD8.out (by have := HSL.out; simp only [List.length_nil]; omega) rfl _ _ rfl rfl rfl ?_; intro v9 w9 hm9 hg9; simp only [List.nil_append] at hm9; have HM9 := Lib.hid hm9; have HXa := Lib.hid (HX9.out.below hm9.2); clear hm9 hg9)
                    | (refine catS HM9.out xs A2 m (c1 - 1) HX6.out HXa.out (by have := HSL.out; omega) rfl _ _ rfl rfl rfl ?_; intro v8 w8 hm8 hg8; have HMb := Lib.hid hm8; have HB8 := Lib.hid (HB7.out.trans (hm8.2.mono HB7.out.size)); clear hm8 hg8))
                  obtain ⟨A8, c8, hv8, h81, h82, h83⟩ := HMb.out.ls en1_len
                  have hlen8 : (D ++ xs).length = D.length + m := by rw [List.length_append, ← HX6.out]
                  rw [hlen8] at hv8 h81
                  exact ⟨⟨1, r, l + 1, D.length + m, c8, A8, D ++ xs, rfl, by go_num, hv8, by omega, by decide, by have := HSL.out; omega, hlen8.symm, ⟨h81, h82⟩, h83, fun y hy => (by
                    rcases List.mem_append.1 hy with h | h
                    · exact HDS.out y h
                    · exact HX8s.out y h), HL2.out, HB8.out⟩, by rw [hv8]; have := HSL.out; simp [slN, intOf]; omega⟩
                · have e6 : (sx != 0) = true := by rw [bne, eq0, decide_eq_false hsx]; rfl
                  have HE := Lib.hid (HWB.out hsx)
                  clear hsx
                  go_wp2_with (first
                    | (go_at_call 20; (with_reducible refine HIA.out.mono ?_); rintro e w2 ⟨rfl, hb⟩; have hb2 := hb.alloc hb.size (.cells #[.int .u8 nK, .int .u16 nM, .int .u32 nL, .int .u32 nS, .string nT] 31); have HW2 := Lib.hid hb2; have HRN := Lib.hid (heap_alloc_new w2 (.cells #[.int .u8 nK, .int .u16 nM, .int .u32 nL, .int .u32 nS, .string nT] 31)); have HQL := Lib.hid (show wr.heap.size ≤ w2.heap.size from hb.size); have n0 : (w2.alloc (.cells #[.int .u8 nK, .int .u16 nM, .int .u32 nL, .int .u32 nS, .string nT] 31)).cell? ⟨w2.heap.size, 0, none⟩ = some (.int .u8 (nK : Int)) := cell_of_row _ _ 0 _ _ _ (heap_alloc_new w2 (.cells #[.int .u8 nK, .int .u16 nM, .int .u32 nL, .int .u32 nS, .string nT] 31)); have e0 : (w2.alloc (.cells #[.int .u8 nK, .int .u16 nM, .int .u32 nL, .int .u32 nS, .string nT] 31)).cell? ⟨b0, o0, none⟩ = some (.string x) := (Below.cell hb2 (p := ⟨b0, o0, none⟩) hb0).trans E0.out; have HQ2 := Lib.hid (show w2.heap.size < (w2.alloc (.cells #[.int .u8 nK, .int .u16 nM, .int .u32 nL, .int .u32 nS, .string nT] 31)).heap.size by simp); clear hb hb2)
                    | (go_at_call 21; (with_reducible refine (HEN.out _ (HB.out.trans (HW2.out.mono HB.out.size))).mono ?_); rintro e w4 ⟨rfl, hb⟩; have HW4 := Lib.hid (HW2.out.trans (hb.mono HW2.out.size)); have HRN4 := Lib.hid ((hb.block _ HQ2.out).trans HRN.out); have HQ4 := Lib.hid (Nat.lt_of_lt_of_le HQ2.out hb.size); clear hb)
                    | (go_at_call 20; (with_reducible refine (HIJ.out _ (HB.out.trans (HW4.out.mono HB.out.size))).mono ?_); rintro e w5 ⟨rfl, hb⟩; have HW5 := Lib.hid (below_setRow (HW4.out.trans (hb.mono HW4.out.size)) HQL.out #[.int .u8 jK, .int .u16 jM, .int .u32 jL, .int .u32 jS, .string jT]); have HRN5 := Lib.hid ((hb.block _ HQ4.out).trans HRN4.out); have j0 : (w5.setRow w2.heap.size #[.int .u8 jK, .int .u16 jM, .int .u32 jL, .int .u32 jS, .string jT]).cell? ⟨w2.heap.size, 0, none⟩ = some (.int .u8 (jK : Int)) := cell_of_row _ _ 0 _ _ _ (setRow_heap' HRN5.out); have j4 : (w5.setRow w2.heap.size #[.int .u8 jK, .int .u16 jM, .int .u32 jL, .int .u32 jS, .string jT]).cell? ⟨w2.heap.size, 4, none⟩ = some (.string jT) := cell_of_row _ _ 4 _ _ _ (setRow_heap' HRN5.out); have HBf := Lib.hid (HB.out.trans (HW5.out.mono HB.out.size)); have HXf := Lib.hid (HXD.out _ HW5.out); clear hb)
                    | (refine wpList_store_row rfl 31 (.tmp 11) (.tmp 48) rfl w2.heap.size #[.int .u8 jK, .int .u16 jM, .int .u32 jL, .int .u32 jS, .string jT] rfl rfl 31 #[.int .u8 nK, .int .u16 nM, .int .u32 nL, .int .u32 nS, .string nT] HRN5.out (by kernel_rfl) rfl (row5 _ _ _ _ _) ?_)
                    | (go_at_call 22; (with_reducible refine (HSP.out _).mono ?_); rintro e w7 ⟨v7, rfl, hm7⟩; obtain ⟨A7, c7, rfl, h71, h72, h73⟩ := hm7.ls en1_len; have HD7 := Lib.hid h73; have HX9 := Lib.hid ((HXf.out.below hm7.2).more hm7.2.size); have HB7 := Lib.hid (HBf.out.trans (hm7.2.mono HBf.out.size)); clear hm7 h71 h72 h73))
                  go_ret2
                  exact ⟨by rw [show R1 = 0 from HE.out.1, show R2 = sx from HE.out.2]; rfl, HB7.out⟩
            · have e4 : ((m : Int) == 0) = false := eqz0 (decide_eq_false hm0)
              clear hm0 hgo
              by_cases hr0 : r = 0
              · subst hr0
                have e5 : ((l : Int) == 8) = true := eqz (b := 8) (decide_eq_true (by omega))
                have HE := Lib.hid (wk_loop HX5.out HK1.out HEJ.out HC0.out)
                go_wp2_with (first
                  | (go_at_call 20; (with_reducible refine HIA.out.mono ?_); rintro e w2 ⟨rfl, hb⟩; have hb2 := hb.alloc hb.size (.cells #[.int .u8 nK, .int .u16 nM, .int .u32 nL, .int .u32 nS, .string nT] 31); have HW2 := Lib.hid hb2; have HRN := Lib.hid (heap_alloc_new w2 (.cells #[.int .u8 nK, .int .u16 nM, .int .u32 nL, .int .u32 nS, .string nT] 31)); have HQL := Lib.hid (show wr.heap.size ≤ w2.heap.size from hb.size); have n0 : (w2.alloc (.cells #[.int .u8 nK, .int .u16 nM, .int .u32 nL, .int .u32 nS, .string nT] 31)).cell? ⟨w2.heap.size, 0, none⟩ = some (.int .u8 (nK : Int)) := cell_of_row _ _ 0 _ _ _ (heap_alloc_new w2 (.cells #[.int .u8 nK, .int .u16 nM, .int .u32 nL, .int .u32 nS, .string nT] 31)); have e0 : (w2.alloc (.cells #[.int .u8 nK, .int .u16 nM, .int .u32 nL, .int .u32 nS, .string nT] 31)).cell? ⟨b0, o0, none⟩ = some (.string x) := (Below.cell hb2 (p := ⟨b0, o0, none⟩) hb0).trans E0.out; have HQ2 := Lib.hid (show w2.heap.size < (w2.alloc (.cells #[.int .u8 nK, .int .u16 nM, .int .u32 nL, .int .u32 nS, .string nT] 31)).heap.size by simp); clear hb hb2)
                  | (go_at_call 21; (with_reducible refine (HEN.out _ (HB.out.trans (HW2.out.mono HB.out.size))).mono ?_); rintro e w4 ⟨rfl, hb⟩; have HW4 := Lib.hid (HW2.out.trans (hb.mono HW2.out.size)); have HRN4 := Lib.hid ((hb.block _ HQ2.out).trans HRN.out); have HQ4 := Lib.hid (Nat.lt_of_lt_of_le HQ2.out hb.size); clear hb)
                  | (go_at_call 20; (with_reducible refine (HIJ.out _ (HB.out.trans (HW4.out.mono HB.out.size))).mono ?_); rintro e w5 ⟨rfl, hb⟩; have HW5 := Lib.hid (below_setRow (HW4.out.trans (hb.mono HW4.out.size)) HQL.out #[.int .u8 jK, .int .u16 jM, .int .u32 jL, .int .u32 jS, .string jT]); have HRN5 := Lib.hid ((hb.block _ HQ4.out).trans HRN4.out); have j0 : (w5.setRow w2.heap.size #[.int .u8 jK, .int .u16 jM, .int .u32 jL, .int .u32 jS, .string jT]).cell? ⟨w2.heap.size, 0, none⟩ = some (.int .u8 (jK : Int)) := cell_of_row _ _ 0 _ _ _ (setRow_heap' HRN5.out); have j4 : (w5.setRow w2.heap.size #[.int .u8 jK, .int .u16 jM, .int .u32 jL, .int .u32 jS, .string jT]).cell? ⟨w2.heap.size, 4, none⟩ = some (.string jT) := cell_of_row _ _ 4 _ _ _ (setRow_heap' HRN5.out); have HBf := Lib.hid (HB.out.trans (HW5.out.mono HB.out.size)); have HXf := Lib.hid (HXD.out _ HW5.out); clear hb)
                  | (refine wpList_store_row rfl 31 (.tmp 11) (.tmp 48) rfl w2.heap.size #[.int .u8 jK, .int .u16 jM, .int .u32 jL, .int .u32 jS, .string jT] rfl rfl 31 #[.int .u8 nK, .int .u16 nM, .int .u32 nL, .int .u32 nS, .string nT] HRN5.out (by kernel_rfl) rfl (row5 _ _ _ _ _) ?_))
                go_ret2
                exact ⟨by rw [show R1 = 0 from HE.out.1, show R2 = 15 from HE.out.2]; rfl, HBf.out⟩
              · obtain ⟨r, rfl⟩ : ∃ k, r = k + 1 := ⟨r - 1, by omega⟩
                have e5 : ((l : Int) == 8) = false := eqz (b := 8) (decide_eq_false (by omega))
                have HSP := Lib.hid (fun w => Ph.refSplit_any jT HTS.out w)
                have HWB := Lib.hid (fun h => wk_bad HX5.out HK1.out HEJ.out HC0.out h)
                have HWL := Lib.hid (fun h => wk_link HX5.out HK1.out HEJ.out HC0.out h)
                rw [HTJ.out] at HWB HWL
                have HSN := Lib.hid (sp_sizes (p := jT))
                have HSL := Lib.hid (spB_len jT)
                unfold Ph.SplitPost at HSP
                generalize spB jT = D at *
                generalize spX jT = sx at *
                clear hr0
                by_cases hsx : sx = 0
                · have e6 : (sx != 0) = false := by rw [bne, eq0, decide_eq_true hsx]; rfl
                  have HL2 := Lib.hid (HWL.out hsx)
                  have HDS := Lib.hid (HSN.out hsx)
                  have hwl : IntKind.i64.wrap ((l : Int) + 1) = ((l + 1 : Nat) : Int) := by rw [show ((l + 1 : Nat) : Int) = (l : Int) + 1 by omega]; exact IntWalk.i64_in _ ⟨by omega, by omega⟩
                  clear hsx
                  go_wp2_with (first
                    | (go_at_call 20; (with_reducible refine HIA.out.mono ?_); rintro e w2 ⟨rfl, hb⟩; have hb2 := hb.alloc hb.size (.cells #[.int .u8 nK, .int .u16 nM, .int .u32 nL, .int .u32 nS, .string nT] 31); have HW2 := Lib.hid hb2; have HRN := Lib.hid (heap_alloc_new w2 (.cells #[.int .u8 nK, .int .u16 nM, .int .u32 nL, .int .u32 nS, .string nT] 31)); have HQL := Lib.hid (show wr.heap.size ≤ w2.heap.size from hb.size); have n0 : (w2.alloc (.cells #[.int .u8 nK, .int .u16 nM, .int .u32 nL, .int .u32 nS, .string nT] 31)).cell? ⟨w2.heap.size, 0, none⟩ = some (.int .u8 (nK : Int)) := cell_of_row _ _ 0 _ _ _ (heap_alloc_new w2 (.cells #[.int .u8 nK, .int .u16 nM, .int .u32 nL, .int .u32 nS, .string nT] 31)); have e0 : (w2.alloc (.cells #[.int .u8 nK, .int .u16 nM, .int .u32 nL, .int .u32 nS, .string nT] 31)).cell? ⟨b0, o0, none⟩ = some (.string x) := (Below.cell hb2 (p := ⟨b0, o0, none⟩) hb0).trans E0.out; have HQ2 := Lib.hid (show w2.heap.size < (w2.alloc (.cells #[.int .u8 nK, .int .u16 nM, .int .u32 nL, .int .u32 nS, .string nT] 31)).heap.size by simp); clear hb hb2)
                    | (go_at_call 21; (with_reducible refine (HEN.out _ (HB.out.trans (HW2.out.mono HB.out.size))).mono ?_); rintro e w4 ⟨rfl, hb⟩; have HW4 := Lib.hid (HW2.out.trans (hb.mono HW2.out.size)); have HRN4 := Lib.hid ((hb.block _ HQ2.out).trans HRN.out); have HQ4 := Lib.hid (Nat.lt_of_lt_of_le HQ2.out hb.size); clear hb)
                    | (go_at_call 20; (with_reducible refine (HIJ.out _ (HB.out.trans (HW4.out.mono HB.out.size))).mono ?_); rintro e w5 ⟨rfl, hb⟩; have HW5 := Lib.hid (below_setRow (HW4.out.trans (hb.mono HW4.out.size)) HQL.out #[.int .u8 jK, .int .u16 jM, .int .u32 jL, .int .u32 jS, .string jT]); have HRN5 := Lib.hid ((hb.block _ HQ4.out).trans HRN4.out); have j0 : (w5.setRow w2.heap.size #[.int .u8 jK, .int .u16 jM, .int .u32 jL, .int .u32 jS, .string jT]).cell? ⟨w2.heap.size, 0, none⟩ = some (.int .u8 (jK : Int)) := cell_of_row _ _ 0 _ _ _ (setRow_heap' HRN5.out); have j4 : (w5.setRow w2.heap.size #[.int .u8 jK, .int .u16 jM, .int .u32 jL, .int .u32 jS, .string jT]).cell? ⟨w2.heap.size, 4, none⟩ = some (.string jT) := cell_of_row _ _ 4 _ _ _ (setRow_heap' HRN5.out); have HBf := Lib.hid (HB.out.trans (HW5.out.mono HB.out.size)); have HXf := Lib.hid (HXD.out _ HW5.out); clear hb)
                    | (refine wpList_store_row rfl 31 (.tmp 11) (.tmp 48) rfl w2.heap.size #[.int .u8 jK, .int .u16 jM, .int .u32 jL, .int .u32 jS, .string jT] rfl rfl 31 #[.int .u8 nK, .int .u16 nM, .int .u32 nL, .int .u32 nS, .string nT] HRN5.out (by kernel_rfl) rfl (row5 _ _ _ _ _) ?_)
                    | (go_at_call 22; (with_reducible refine (HSP.out _).mono ?_); rintro e w7 ⟨v7, rfl, hm7⟩; obtain ⟨A7, c7, rfl, h71, h72, h73⟩ := hm7.ls en1_len; have HD7 := Lib.hid h73; have HX9 := Lib.hid ((HXf.out.below hm7.2).more hm7.2.size); have HB7 := Lib.hid (HBf.out.trans (hm7.2.mono HBf.out.size)); clear hm7 h71 h72 h73)
                    | (refine wpList_noS (wb := w7) (Below.refl _ _) rfl rfl ?_; intro hM; have HM8 := Lib.hid hM; have HD8 := Lib.hid (HD7.out.below hM.2); have HX8 := Lib.hid (HX9.out.below hM.2); clear hM)
                    | (refine catS HM8.out D A7 D.length c7 rfl HD8.out (by have := HSL.out; simp only [List.length_nil]; omega) rfl _ _ rfl rfl rfl ?_; intro v9 w9 hm9 hg9; simp only [List.nil_append] at hm9; have HM9 := Lib.hid hm9; have HXa := Lib.hid (HX9.out.below hm9.2); clear hm9 hg9)
                    | (refine catS HM9.out xs A2 m (c1 - 1) HX6.out HXa.out (by have := HSL.out; omega) rfl _ _ rfl rfl rfl ?_; intro v8 w8 hm8 hg8; have HMb := Lib.hid hm8; have HB8 := Lib.hid (HB7.out.trans (hm8.2.mono HB7.out.size)); clear hm8 hg8))
                  obtain ⟨A8, c8, hv8, h81, h82, h83⟩ := HMb.out.ls en1_len
                  have hlen8 : (D ++ xs).length = D.length + m := by rw [List.length_append, ← HX6.out]
                  rw [hlen8] at hv8 h81
                  exact ⟨⟨1, r, l + 1, D.length + m, c8, A8, D ++ xs, rfl, by go_num, hv8, by omega, by decide, by have := HSL.out; omega, hlen8.symm, ⟨h81, h82⟩, h83, fun y hy => (by
                    rcases List.mem_append.1 hy with h | h
                    · exact HDS.out y h
                    · exact HX8s.out y h), HL2.out, HB8.out⟩, by rw [hv8]; have := HSL.out; simp [slN, intOf]; omega⟩
                · have e6 : (sx != 0) = true := by rw [bne, eq0, decide_eq_false hsx]; rfl
                  have HE := Lib.hid (HWB.out hsx)
                  clear hsx
                  go_wp2_with (first
                    | (go_at_call 20; (with_reducible refine HIA.out.mono ?_); rintro e w2 ⟨rfl, hb⟩; have hb2 := hb.alloc hb.size (.cells #[.int .u8 nK, .int .u16 nM, .int .u32 nL, .int .u32 nS, .string nT] 31); have HW2 := Lib.hid hb2; have HRN := Lib.hid (heap_alloc_new w2 (.cells #[.int .u8 nK, .int .u16 nM, .int .u32 nL, .int .u32 nS, .string nT] 31)); have HQL := Lib.hid (show wr.heap.size ≤ w2.heap.size from hb.size); have n0 : (w2.alloc (.cells #[.int .u8 nK, .int .u16 nM, .int .u32 nL, .int .u32 nS, .string nT] 31)).cell? ⟨w2.heap.size, 0, none⟩ = some (.int .u8 (nK : Int)) := cell_of_row _ _ 0 _ _ _ (heap_alloc_new w2 (.cells #[.int .u8 nK, .int .u16 nM, .int .u32 nL, .int .u32 nS, .string nT] 31)); have e0 : (w2.alloc (.cells #[.int .u8 nK, .int .u16 nM, .int .u32 nL, .int .u32 nS, .string nT] 31)).cell? ⟨b0, o0, none⟩ = some (.string x) := (Below.cell hb2 (p := ⟨b0, o0, none⟩) hb0).trans E0.out; have HQ2 := Lib.hid (show w2.heap.size < (w2.alloc (.cells #[.int .u8 nK, .int .u16 nM, .int .u32 nL, .int .u32 nS, .string nT] 31)).heap.size by simp); clear hb hb2)
                    | (go_at_call 21; (with_reducible refine (HEN.out _ (HB.out.trans (HW2.out.mono HB.out.size))).mono ?_); rintro e w4 ⟨rfl, hb⟩; have HW4 := Lib.hid (HW2.out.trans (hb.mono HW2.out.size)); have HRN4 := Lib.hid ((hb.block _ HQ2.out).trans HRN.out); have HQ4 := Lib.hid (Nat.lt_of_lt_of_le HQ2.out hb.size); clear hb)
                    | (go_at_call 20; (with_reducible refine (HIJ.out _ (HB.out.trans (HW4.out.mono HB.out.size))).mono ?_); rintro e w5 ⟨rfl, hb⟩; have HW5 := Lib.hid (below_setRow (HW4.out.trans (hb.mono HW4.out.size)) HQL.out #[.int .u8 jK, .int .u16 jM, .int .u32 jL, .int .u32 jS, .string jT]); have HRN5 := Lib.hid ((hb.block _ HQ4.out).trans HRN4.out); have j0 : (w5.setRow w2.heap.size #[.int .u8 jK, .int .u16 jM, .int .u32 jL, .int .u32 jS, .string jT]).cell? ⟨w2.heap.size, 0, none⟩ = some (.int .u8 (jK : Int)) := cell_of_row _ _ 0 _ _ _ (setRow_heap' HRN5.out); have j4 : (w5.setRow w2.heap.size #[.int .u8 jK, .int .u16 jM, .int .u32 jL, .int .u32 jS, .string jT]).cell? ⟨w2.heap.size, 4, none⟩ = some (.string jT) := cell_of_row _ _ 4 _ _ _ (setRow_heap' HRN5.out); have HBf := Lib.hid (HB.out.trans (HW5.out.mono HB.out.size)); have HXf := Lib.hid (HXD.out _ HW5.out); clear hb)
                    | (refine wpList_store_row rfl 31 (.tmp 11) (.tmp 48) rfl w2.heap.size #[.int .u8 jK, .int .u16 jM, .int .u32 jL, .int .u32 jS, .string jT] rfl rfl 31 #[.int .u8 nK, .int .u16 nM, .int .u32 nL, .int .u32 nS, .string nT] HRN5.out (by kernel_rfl) rfl (row5 _ _ _ _ _) ?_)
                    | (go_at_call 22; (with_reducible refine (HSP.out _).mono ?_); rintro e w7 ⟨v7, rfl, hm7⟩; obtain ⟨A7, c7, rfl, h71, h72, h73⟩ := hm7.ls en1_len; have HD7 := Lib.hid h73; have HX9 := Lib.hid ((HXf.out.below hm7.2).more hm7.2.size); have HB7 := Lib.hid (HBf.out.trans (hm7.2.mono HBf.out.size)); clear hm7 h71 h72 h73))
                  go_ret2
                  exact ⟨by rw [show R1 = 0 from HE.out.1, show R2 = sx from HE.out.2]; rfl, HB7.out⟩
        · have e3 : ((jK : Int) != 3) = true := by rw [bne, eqz3 (decide_eq_false h3)]; rfl
          have HON := Lib.hid (wk_on HX5.out HK1.out HEJ.out (by rw [HKJ.out, decide_eq_true h3]; rfl))
          clear h3
          go_wp2_with (first
            | (go_at_call 20; (with_reducible refine HIA.out.mono ?_); rintro e w2 ⟨rfl, hb⟩; have hb2 := hb.alloc hb.size (.cells #[.int .u8 nK, .int .u16 nM, .int .u32 nL, .int .u32 nS, .string nT] 31); have HW2 := Lib.hid hb2; have HRN := Lib.hid (heap_alloc_new w2 (.cells #[.int .u8 nK, .int .u16 nM, .int .u32 nL, .int .u32 nS, .string nT] 31)); have HQL := Lib.hid (show wr.heap.size ≤ w2.heap.size from hb.size); have n0 : (w2.alloc (.cells #[.int .u8 nK, .int .u16 nM, .int .u32 nL, .int .u32 nS, .string nT] 31)).cell? ⟨w2.heap.size, 0, none⟩ = some (.int .u8 (nK : Int)) := cell_of_row _ _ 0 _ _ _ (heap_alloc_new w2 (.cells #[.int .u8 nK, .int .u16 nM, .int .u32 nL, .int .u32 nS, .string nT] 31)); have e0 : (w2.alloc (.cells #[.int .u8 nK, .int .u16 nM, .int .u32 nL, .int .u32 nS, .string nT] 31)).cell? ⟨b0, o0, none⟩ = some (.string x) := (Below.cell hb2 (p := ⟨b0, o0, none⟩) hb0).trans E0.out; have HQ2 := Lib.hid (show w2.heap.size < (w2.alloc (.cells #[.int .u8 nK, .int .u16 nM, .int .u32 nL, .int .u32 nS, .string nT] 31)).heap.size by simp); clear hb hb2)
            | (go_at_call 21; (with_reducible refine (HEN.out _ (HB.out.trans (HW2.out.mono HB.out.size))).mono ?_); rintro e w4 ⟨rfl, hb⟩; have HW4 := Lib.hid (HW2.out.trans (hb.mono HW2.out.size)); have HRN4 := Lib.hid ((hb.block _ HQ2.out).trans HRN.out); have HQ4 := Lib.hid (Nat.lt_of_lt_of_le HQ2.out hb.size); clear hb)
            | (go_at_call 20; (with_reducible refine (HIJ.out _ (HB.out.trans (HW4.out.mono HB.out.size))).mono ?_); rintro e w5 ⟨rfl, hb⟩; have HW5 := Lib.hid (below_setRow (HW4.out.trans (hb.mono HW4.out.size)) HQL.out #[.int .u8 jK, .int .u16 jM, .int .u32 jL, .int .u32 jS, .string jT]); have HRN5 := Lib.hid ((hb.block _ HQ4.out).trans HRN4.out); have j0 : (w5.setRow w2.heap.size #[.int .u8 jK, .int .u16 jM, .int .u32 jL, .int .u32 jS, .string jT]).cell? ⟨w2.heap.size, 0, none⟩ = some (.int .u8 (jK : Int)) := cell_of_row _ _ 0 _ _ _ (setRow_heap' HRN5.out); have j4 : (w5.setRow w2.heap.size #[.int .u8 jK, .int .u16 jM, .int .u32 jL, .int .u32 jS, .string jT]).cell? ⟨w2.heap.size, 4, none⟩ = some (.string jT) := cell_of_row _ _ 4 _ _ _ (setRow_heap' HRN5.out); have HBf := Lib.hid (HB.out.trans (HW5.out.mono HB.out.size)); have HXf := Lib.hid (HXD.out _ HW5.out); clear hb)
            | (refine wpList_store_row rfl 31 (.tmp 11) (.tmp 48) rfl w2.heap.size #[.int .u8 jK, .int .u16 jM, .int .u32 jL, .int .u32 jS, .string jT] rfl rfl 31 #[.int .u8 nK, .int .u16 nM, .int .u32 nL, .int .u32 nS, .string nT] HRN5.out (by kernel_rfl) rfl (row5 _ _ _ _ _) ?_))
          exact ⟨⟨j, r, l, m, c1 - 1, A2, xs, rfl, rfl, rfl, hlr, hjl, by omega, HX6.out, HX7.out, HXf.out, HX8s.out, HON.out, HBf.out⟩, by simp [slN, intOf]⟩
end Go.Proofs.YtngcogjjcidccaaGreat.Di
/- Contract of the document's List (layer 14), in the program's words. -/
namespace Go.Proofs.YtngcogjjcidccaaGreat.Di
set_option linter.unusedVariables false
set_option linter.unusedSimpArgs false
set_option maxRecDepth 100000
open Go.ChangeShapes Go.WideShapes Go.ChangeAt Go.RowKit
open BigFrame
open Ar Rg
open Ino
open It (Itm)
variable {w w' wr : World} {L : List Itm}
theorem pts_at {k : Nat} {x : Itm} (h : L[k]? = some x) : (pts L)[k]? = some (ptOf x) := by unfold pts; rw [List.getElem?_map, h]; rfl
theorem enOf_R (hr : rgt L = true) {x : Itm} (hx : x ∈ L) (h2 : (deK x.k).K = 2) : enOf (vo (pts L)) (ptOf x) = ⟨(deK x.k).N, namR x.v, (inoR L (namR x.v)).1.K⟩ := by
  have h := rgt_iff.1 hr
  have h3 := ent_own h.rt h.ok hx h2
  have h4 := (namR_ok (h.ok x hx) h2).1
  unfold enOf
  have eK : (ptOf x).k = deK x.k := rfl
  rw [eK, h3, Option.getD_some, ← h4, kind_get, ← inoR_get hr (namR_lt _)]
set_option maxHeartbeats 8000000 in
theorem List_R {A : Option Addr} {n : Nat} (c i : Nat) (hi : i < 4294967296) (h : ItA w A n L) :
    Calls Tryz.prog 9 #[.slice A n c, .int .u32 (i : Int)] w fun e w' => ∃ v, e = .returned (.tuple #[v, .int .i64 (lsX L i)]) ∧ MkE w w' v (lsL L i) := by
  have HC := Lib.hid (Get_R c i hi h)
  have HX := Lib.hid (show lsX L i = if gtE L i ≠ 0 then gtE L i else if (gtI L i).K ≠ 1 then 12 else 0 from rfl)
  have HLL := Lib.hid (show lsL L i = if lsX L i = 0 then lsE (vo (pts L)) i (pts L) else [] from rfl)
  have HRG := Lib.hid (@gtE_rgt L i)
  obtain ⟨q, hq⟩ : ∃ q, gtI L i = q := ⟨_, rfl⟩
  obtain ⟨y, hy⟩ : ∃ y, gtE L i = y := ⟨_, rfl⟩
  rw [hq, hy] at HC HX
  rw [hy] at HRG
  obtain ⟨gK, gM, gL, gS, gT⟩ := q
  unfold vI at HC
  dsimp only at HC HX
  clear hq hy
  by_cases hy0 : y ≠ 0
  · have HX0 := Lib.hid (show lsX L i = y by rw [HX.out, if_pos hy0])
    have HL0 := Lib.hid (show lsL L i = [] by rw [HLL.out, HX0.out, if_neg hy0])
    have e1 : (y == 0) = false := by rw [eq0]; exact decide_eq_false hy0
    have e2 : (y != 0) = true := by rw [bne, e1]; rfl
    clear hy0
    go_enter Tryz.func9, Tryz.ntmps9
    go_wp2_with (first
      | (go_at_call 7; (with_reducible refine HC.out.mono ?_); rintro e w1 ⟨rfl, hb⟩; have HB1 := Lib.hid (hb.alloc hb.size (.cells #[.int .u8 gK, .int .u16 gM, .int .u32 gL, .int .u32 gS, .string gT] 31)); have g0 : (w1.alloc (.cells #[.int .u8 gK, .int .u16 gM, .int .u32 gL, .int .u32 gS, .string gT] 31)).cell? ⟨w1.heap.size, 0, none⟩ = some (.int .u8 (gK : Int)) := cell_of_row _ _ 0 _ _ _ (heap_alloc_new w1 (.cells #[.int .u8 gK, .int .u16 gM, .int .u32 gL, .int .u32 gS, .string gT] 31)); clear hb))
    go_ret2
    exact ⟨.slice none 0 0, by rw [HX0.out]; rfl, by rw [HL0.out]; exact Mk.nil HB1.out⟩
  replace hy0 := Decidable.not_not.1 hy0
  subst hy0
  by_cases hk : gK ≠ 1
  · have HX0 := Lib.hid (show lsX L i = 12 by rw [HX.out, if_neg (fun h => h rfl), if_pos hk])
    have HL0 := Lib.hid (show lsL L i = [] by rw [HLL.out, HX0.out]; rfl)
    have e1 : ((gK : Int) != 1) = true := by rw [bne, eqz1 (decide_eq_false hk)]; rfl
    clear hk
    go_enter Tryz.func9, Tryz.ntmps9
    go_wp2_with (first
      | (go_at_call 7; (with_reducible refine HC.out.mono ?_); rintro e w1 ⟨rfl, hb⟩; have HB1 := Lib.hid (hb.alloc hb.size (.cells #[.int .u8 gK, .int .u16 gM, .int .u32 gL, .int .u32 gS, .string gT] 31)); have g0 : (w1.alloc (.cells #[.int .u8 gK, .int .u16 gM, .int .u32 gL, .int .u32 gS, .string gT] 31)).cell? ⟨w1.heap.size, 0, none⟩ = some (.int .u8 (gK : Int)) := cell_of_row _ _ 0 _ _ _ (heap_alloc_new w1 (.cells #[.int .u8 gK, .int .u16 gM, .int .u32 gL, .int .u32 gS, .string gT] 31)); clear hb))
    go_ret2
    exact ⟨.slice none 0 0, by rw [HX0.out]; rfl, by rw [HL0.out]; exact Mk.nil HB1.out⟩
  replace hk := Decidable.not_not.1 hk
  have HX0 := Lib.hid (show lsX L i = 0 by rw [HX.out, if_neg (fun h => h rfl), if_neg (fun h => h hk)])
  have HL0 := Lib.hid (show lsL L i = lsE (vo (pts L)) i (pts L) by rw [HLL.out, HX0.out]; rfl)
  have e1 : ((gK : Int) != 1) = false := by rw [bne, eqz1 (decide_eq_true hk)]; rfl
  have hr := HRG.out rfl
  have hg := rgt_iff.1 hr
  have HI := Lib.hid (fun (wx : World) (hb : Below w.heap.size w wx) (i : Nat) (hi : i < 4294967296) => inode_R (w := wx) c i hi (h.go hb) hg.rt)
  have HEO := Lib.hid (fun (x : Itm) (hx : x ∈ L) (h2 : (deK x.k).K = 2) => enOf_R hr hx h2)
  have HS := Lib.hid (rt_sizes hg.rt)
  have HN := Lib.hid h.1
  have hM := h.2.1
  have HL := Lib.hid h.2.2
  obtain ⟨s, hs⟩ : ∃ s, vo (pts L) = s := ⟨_, rfl⟩
  rw [hs] at HL0 HEO
  have HLN := Lib.hid (fun (k : Nat) => lsE_len (s := s) (ps := pts L) i k)
  clear hk h hr hg hs HLL HX HRG
  go_enter Tryz.func9, Tryz.ntmps9
  go_wp2_with (first
    | (go_at_call 7; (with_reducible refine HC.out.mono ?_); rintro e w1 ⟨rfl, hb⟩; have HB1 := Lib.hid (hb.alloc hb.size (.cells #[.int .u8 gK, .int .u16 gM, .int .u32 gL, .int .u32 gS, .string gT] 31)); have g0 : (w1.alloc (.cells #[.int .u8 gK, .int .u16 gM, .int .u32 gL, .int .u32 gS, .string gT] 31)).cell? ⟨w1.heap.size, 0, none⟩ = some (.int .u8 (gK : Int)) := cell_of_row _ _ 0 _ _ _ (heap_alloc_new w1 (.cells #[.int .u8 gK, .int .u16 gM, .int .u32 gL, .int .u32 gS, .string gT] 31)); clear hb))
  go_loopw [8, 33] (fun v8 v wr => ∃ k : Nat, k ≤ n ∧ v = .int .i64 k ∧ Hid (MkE w wr v8 (lsE s i ((pts L).take k)))) (fun _ v _ => n - (intOf v).toNat)
  case atStart => exact ⟨0, Nat.zero_le _, by go_num, Mk.nil HB1.out⟩
  case round =>
    clear g0 e1
    obtain ⟨k, hk, rfl, hm⟩ := hrel
    have HM := Lib.hid (Hid.out hm)
    have HBr : Hid (Below w.heap.size w wr) := Lib.hid HM.out.2
    clear hm
    by_cases hlt : k < n
    · obtain ⟨x, hx⟩ : ∃ x, L[k]? = some x := ⟨_, List.getElem?_eq_getElem (by rw [← HN.out]; exact hlt)⟩
      obtain ⟨b, o, hAe, c0, c1⟩ := rowI (HL.out.below HM.out.2) hx
      subst hAe
      have hmem := List.mem_of_getElem? hx
      have HWa := Lib.hid ((Below.refl wr.heap.size wr).alloc (Nat.le_refl _) (.cells #[.string x.k, .string x.v] 72))
      have HQ := Lib.hid (heap_alloc_new wr (.cells #[.string x.k, .string x.v] 72))
      have HQL := Lib.hid (show wr.heap.size < (wr.alloc (.cells #[.string x.k, .string x.v] 72)).heap.size by simp)
      have k0 : (wr.alloc (.cells #[.string x.k, .string x.v] 72)).cell? ⟨wr.heap.size, 0, none⟩ = some (.string x.k) := cell_of_row _ _ 0 _ _ _ (heap_alloc_new wr (.cells #[.string x.k, .string x.v] 72))
      have HP := Lib.hid (fun (wx : World) => refParse_in x.k (Nat.le_trans (HS.out x hmem).1 (by unfold maxLen; omega)) wx)
      have HND := Lib.hid (fun (wx : World) => named_R (w := wx) x (Nat.le_trans (HS.out x hmem).2 (by unfold maxLen; omega)))
      have HIN := Lib.hid (fun (wx : World) (hb : Below w.heap.size w wx) => HI.out wx hb (namR x.v) (namR_lt x.v))
      have HYES := Lib.hid (fun h => lsE_yes (s := s) (d := i) (pts_at hx) h)
      have HNO := Lib.hid (fun h => lsE_no (s := s) (d := i) (pts_at hx) h)
      have HLN2 := Lib.hid (HLN.out k)
      have HEO2 := Lib.hid (HEO.out x hmem)
      have HIE := Lib.hid (show isE i (ptOf x) = (decide ((deK x.k).K = 2) && decide ((deK x.k).I = i)) from rfl)
      generalize enOf s (ptOf x) = en at *
      generalize isE i (ptOf x) = ie at *
      generalize deKE x.k = kx at *
      generalize deK x.k = q at *
      generalize namR x.v = nm at *
      generalize inoR L nm = pn at *
      obtain ⟨kK, kI, kN, kC⟩ := q
      obtain ⟨⟨nK, nM, nL, nS, nT⟩, nb⟩ := pn
      unfold vK at HP
      unfold vI at HIN
      dsimp only at HP HIN HEO2 HIE
      clear hx hmem
      by_cases hk2 : kK = 2
      · have e1 : ((kK : Int) == 2) = true := eqz2 (decide_eq_true hk2)
        by_cases hki : kI = i
        · have e2 : ((kI : Int) == (i : Int)) = true := eqz (decide_eq_true hki)
          have HSN := Lib.hid (by have := HYES.out (by rw [HIE.out, decide_eq_true hk2, decide_eq_true hki]; rfl); rw [HEO2.out hk2] at this; exact this)
          clear hk2 hki
          go_wp2_with (first
            | (go_at_call 25; (with_reducible refine (HP.out _).mono ?_); rintro e w3 ⟨rfl, hb⟩; have hb2 := hb.alloc hb.size (.cells #[.int .u8 kK, .int .u32 kI, .string kN, .int .u32 kC] 75); have HW3 := Lib.hid (HWa.out.trans (hb2.mono HWa.out.size)); have HQ3 := Lib.hid ((hb2.block _ HQL.out).trans HQ.out); have HQL3 := Lib.hid (Nat.lt_of_lt_of_le HQL.out hb2.size); have HK3 := Lib.hid (heap_alloc_new w3 (.cells #[.int .u8 kK, .int .u32 kI, .string kN, .int .u32 kC] 75)); have HKL := Lib.hid (show w3.heap.size < (w3.alloc (.cells #[.int .u8 kK, .int .u32 kI, .string kN, .int .u32 kC] 75)).heap.size by simp); have p0 : (w3.alloc (.cells #[.int .u8 kK, .int .u32 kI, .string kN, .int .u32 kC] 75)).cell? ⟨w3.heap.size, 0, none⟩ = some (.int .u8 (kK : Int)) := cell_of_row _ _ 0 _ _ _ (heap_alloc_new w3 (.cells #[.int .u8 kK, .int .u32 kI, .string kN, .int .u32 kC] 75)); have p1 : (w3.alloc (.cells #[.int .u8 kK, .int .u32 kI, .string kN, .int .u32 kC] 75)).cell? ⟨w3.heap.size, 1, none⟩ = some (.int .u32 (kI : Int)) := cell_of_row _ _ 1 _ _ _ (heap_alloc_new w3 (.cells #[.int .u8 kK, .int .u32 kI, .string kN, .int .u32 kC] 75)); clear hb hb2)
            | (refine wpList_load_row rfl 72 (.tmp 10) rfl wr.heap.size rfl 72 #[.string x.k, .string x.v] (0, 0) _ HQ3.out Tryz.underlying72 rfl (by kernel_rfl) ?_)
            | (go_at_call 26; (with_reducible refine (HND.out _).mono ?_); rintro e w4 ⟨rfl, hb⟩; have HW4 := Lib.hid (HW3.out.trans (hb.mono HW3.out.size)); have HQ4 := Lib.hid ((hb.block _ HQL3.out).trans HQ3.out); have HQL4 := Lib.hid (Nat.lt_of_lt_of_le HQL3.out hb.size); have HK4 := Lib.hid ((hb.block _ HKL.out).trans HK3.out); have HKL4 := Lib.hid (Nat.lt_of_lt_of_le HKL.out hb.size); clear hb)
            | (go_at_call 20; (with_reducible refine (HIN.out _ (HBr.out.trans (HW4.out.mono HBr.out.size))).mono ?_); rintro e w5 ⟨rfl, hb⟩; have hb2 := hb.alloc hb.size (.cells #[.int .u8 nK, .int .u16 nM, .int .u32 nL, .int .u32 nS, .string nT] 31); have HW5 := Lib.hid (HW4.out.trans (hb2.mono HW4.out.size)); have HQ5 := Lib.hid ((hb2.block _ HQL4.out).trans HQ4.out); have HK5 := Lib.hid ((hb2.block _ HKL4.out).trans HK4.out); have HN5 := Lib.hid (heap_alloc_new w5 (.cells #[.int .u8 nK, .int .u16 nM, .int .u32 nL, .int .u32 nS, .string nT] 31)); clear hb hb2))
          refine wp_region_T (fun w' : World => w'.heap[wr.heap.size]? = some (.cells #[.string x.k, .string x.v] 72 (0, 0)) ∧ w'.heap[w3.heap.size]? = some (.cells #[.int .u8 kK, .int .u32 kI, .string kN, .int .u32 kC] 75 (0, 0)) ∧ w'.heap[w5.heap.size]? = some (.cells #[.int .u8 nK, .int .u16 nM, .int .u32 nL, .int .u32 nS, .string nT] 31 (0, 0))) 9 (by kernel_rfl) (by kernel_rfl) ?_
          have HW6 := Lib.hid HW5.out.drew
          have hS : (w5.alloc (.cells #[.int .u8 nK, .int .u16 nM, .int .u32 nL, .int .u32 nS, .string nT] 31)).drew.heap[wr.heap.size]? = some (.cells #[.string x.k, .string x.v] 72 (0, 0)) ∧ (w5.alloc (.cells #[.int .u8 nK, .int .u16 nM, .int .u32 nL, .int .u32 nS, .string nT] 31)).drew.heap[w3.heap.size]? = some (.cells #[.int .u8 kK, .int .u32 kI, .string kN, .int .u32 kC] 75 (0, 0)) ∧ (w5.alloc (.cells #[.int .u8 nK, .int .u16 nM, .int .u32 nL, .int .u32 nS, .string nT] 31)).drew.heap[w5.heap.size]? = some (.cells #[.int .u8 nK, .int .u16 nM, .int .u32 nL, .int .u32 nS, .string nT] 31 (0, 0)) := ⟨HQ5.out, HK5.out, HN5.out⟩
          generalize (w5.alloc (.cells #[.int .u8 nK, .int .u16 nM, .int .u32 nL, .int .u32 nS, .string nT] 31)).drew = W at *
          refine take_T 0 59 (u8) rfl (by rfl) (by kernel_rfl) (by decide) (by kernel_rfl) (by kernel_rfl) (by kernel_rfl) (fun _ _ _ h => h) (Or.inl ⟨by rfl, fun w' hSw => by obtain ⟨s0, s1, s2⟩ := hSw; go_simp⟩) hS ?_
          simp only [List.setIfInBounds_toArray, List.set_cons_zero, List.set_cons_succ]
          refine take_T 1 60 (.pointer (some ⟨w3.heap.size, 2, none⟩)) rfl (by rfl) (by kernel_rfl) (by decide) (by kernel_rfl) (by kernel_rfl) (by kernel_rfl) (fun _ _ _ h => h) (Or.inl ⟨by rfl, fun w' hSw => by obtain ⟨s0, s1, s2⟩ := hSw; go_simp⟩) hS ?_
          simp only [List.setIfInBounds_toArray, List.set_cons_zero, List.set_cons_succ]
          refine take_T 2 61 (.string kN) rfl (by rfl) (by kernel_rfl) (by decide) (by kernel_rfl) (by kernel_rfl) (by kernel_rfl) (fun _ _ _ h => h) (Or.inl ⟨by rfl, fun w' hSw => by obtain ⟨s0, s1, s2⟩ := hSw; have r := cell_of_row _ _ 2 _ _ _ s1; go_simp⟩) hS ?_
          simp only [List.setIfInBounds_toArray, List.set_cons_zero, List.set_cons_succ]
          refine take_T 3 62 (.agg #[.string x.k, .string x.v]) rfl (by rfl) (by kernel_rfl) (by decide) (by kernel_rfl) (by kernel_rfl) (by kernel_rfl) (fun _ _ _ h => h) (Or.inl ⟨by rfl, fun w' hSw => by obtain ⟨s0, s1, s2⟩ := hSw; exact row_run 72 rfl wr.heap.size rfl _ _ (0, 0) _ s0 Tryz.underlying72 rfl (by kernel_rfl)⟩) hS ?_
          simp only [List.setIfInBounds_toArray, List.set_cons_zero, List.set_cons_succ]
          refine take_T 5 64 (.pointer (some ⟨w5.heap.size, 0, none⟩)) rfl (by rfl) (by kernel_rfl) (by decide) (by kernel_rfl) (by kernel_rfl) (by kernel_rfl) (fun _ _ _ h => h) (Or.inl ⟨by rfl, fun w' hSw => by obtain ⟨s0, s1, s2⟩ := hSw; go_simp⟩) hS ?_
          simp only [List.setIfInBounds_toArray, List.set_cons_zero, List.set_cons_succ]
          refine take_T 6 65 (.int .u8 (nK : Int)) rfl (by rfl) (by kernel_rfl) (by decide) (by kernel_rfl) (by kernel_rfl) (by kernel_rfl) (fun _ _ _ h => h) (Or.inl ⟨by rfl, fun w' hSw => by obtain ⟨s0, s1, s2⟩ := hSw; have r := cell_of_row _ _ 0 _ _ _ s2; go_simp⟩) hS ?_
          simp only [List.setIfInBounds_toArray, List.set_cons_zero, List.set_cons_succ]
          refine only_T 4 rfl (by kernel_rfl) (by decide) (by rfl) (fun K hK => ?_)
          go_wp2_with fail
          refine (HND.out _).mono ?_
          rintro e' w7 ⟨rfl, hb⟩
          have HW7 := Lib.hid (HW6.out.trans (hb.mono HW6.out.size))
          have hS2 : w7.heap[wr.heap.size]? = some (.cells #[.string x.k, .string x.v] 72 (0, 0)) ∧ w7.heap[w3.heap.size]? = some (.cells #[.int .u8 kK, .int .u32 kI, .string kN, .int .u32 kC] 75 (0, 0)) ∧ w7.heap[w5.heap.size]? = some (.cells #[.int .u8 nK, .int .u16 nM, .int .u32 nL, .int .u32 nS, .string nT] 31 (0, 0)) := ⟨(hb.block _ (Array.getElem?_eq_some_iff.1 hS.1).1).trans hS.1, (hb.block _ (Array.getElem?_eq_some_iff.1 hS.2.1).1).trans hS.2.1, (hb.block _ (Array.getElem?_eq_some_iff.1 hS.2.2).1).trans hS.2.2⟩
          clear hb
          refine hK.out _ _ hS2 ?_
          clear hK K
          try simp only [Act.put, List.setIfInBounds_toArray, List.set_cons_zero, List.set_cons_succ]
          clear hS
          have hS := hS2
          clear hS2
          refine take_T 7 66 (.agg #[.string kN, .int .u32 (nm : Int), .int .u8 (nK : Int)]) rfl (by rfl) (by kernel_rfl) (by decide) (by kernel_rfl) (by kernel_rfl) (by kernel_rfl) (fun _ _ _ h => h) (Or.inl ⟨by rfl, fun w' hSw => by obtain ⟨s0, s1, s2⟩ := hSw; go_simp⟩) hS ?_
          simp only [List.setIfInBounds_toArray, List.set_cons_zero, List.set_cons_succ]
          refine only_T 8 rfl (by kernel_rfl) (by decide) (by rfl) (fun K hK => ?_)
          go_simp
          have hal : Below w7.heap.size w7 (w7.alloc (.cells #[.string kN, .int .u32 (nm : Int), .int .u8 (nK : Int)] 43)) := (Below.refl _ _).alloc (Nat.le_refl _) _
          have HW8 := Lib.hid (HW7.out.trans (hal.mono HW7.out.size))
          have HLd := Lib.hid (Ls.new (enc := encEn) (k := 3) w7 ⟨kN, nm, nK⟩ 43 (w7.heap.size + 1) (Nat.lt_succ_self _))
          have hS2 : (w7.alloc (.cells #[.string kN, .int .u32 (nm : Int), .int .u8 (nK : Int)] 43)).heap[wr.heap.size]? = some (.cells #[.string x.k, .string x.v] 72 (0, 0)) ∧ (w7.alloc (.cells #[.string kN, .int .u32 (nm : Int), .int .u8 (nK : Int)] 43)).heap[w3.heap.size]? = some (.cells #[.int .u8 kK, .int .u32 kI, .string kN, .int .u32 kC] 75 (0, 0)) ∧ (w7.alloc (.cells #[.string kN, .int .u32 (nm : Int), .int .u8 (nK : Int)] 43)).heap[w5.heap.size]? = some (.cells #[.int .u8 nK, .int .u16 nM, .int .u32 nL, .int .u32 nS, .string nT] 31 (0, 0)) := ⟨(hal.block _ (Array.getElem?_eq_some_iff.1 hS.1).1).trans hS.1, (hal.block _ (Array.getElem?_eq_some_iff.1 hS.2.1).1).trans hS.2.1, (hal.block _ (Array.getElem?_eq_some_iff.1 hS.2.2).1).trans hS.2.2⟩
          clear hal
          refine hK.out _ _ hS2 ?_
          clear hK K
          try simp only [Act.put, List.setIfInBounds_toArray, List.set_cons_zero, List.set_cons_succ]
          clear hS
          have hS := hS2
          clear hS2
          refine done_T (by kernel_rfl) ?_
          simp only [List.drop_succ_cons, List.drop_zero]
          have HMd := Lib.hid (HM.out.go HW8.out)
          go_wp2_with (refine catE HMd.out [⟨kN, nm, nK⟩] _ 1 1 rfl HLd.out (by have := HLN2.out; omega) rfl _ _ rfl rfl rfl ?_; intro v9 w9 hm9 hg9; have HM9 := Lib.hid (show MkE w w9 v9 (lsE s i ((pts L).take (k + 1))) by rw [HSN.out]; exact hm9); clear hm9 hg9)
          exact ⟨⟨k + 1, by omega, by go_num, HM9.out⟩, by simp [intOf] <;> omega⟩
        · have e2 : ((kI : Int) == (i : Int)) = false := eqz (decide_eq_false hki)
          have HSN := Lib.hid (HNO.out (by rw [HIE.out, decide_eq_false hki, Bool.and_false]))
          clear hk2 hki
          go_wp2_with (first
            | (go_at_call 25; (with_reducible refine (HP.out _).mono ?_); rintro e w3 ⟨rfl, hb⟩; have hb2 := hb.alloc hb.size (.cells #[.int .u8 kK, .int .u32 kI, .string kN, .int .u32 kC] 75); have HW3 := Lib.hid (HWa.out.trans (hb2.mono HWa.out.size)); have HQ3 := Lib.hid ((hb2.block _ HQL.out).trans HQ.out); have HQL3 := Lib.hid (Nat.lt_of_lt_of_le HQL.out hb2.size); have HK3 := Lib.hid (heap_alloc_new w3 (.cells #[.int .u8 kK, .int .u32 kI, .string kN, .int .u32 kC] 75)); have HKL := Lib.hid (show w3.heap.size < (w3.alloc (.cells #[.int .u8 kK, .int .u32 kI, .string kN, .int .u32 kC] 75)).heap.size by simp); have p0 : (w3.alloc (.cells #[.int .u8 kK, .int .u32 kI, .string kN, .int .u32 kC] 75)).cell? ⟨w3.heap.size, 0, none⟩ = some (.int .u8 (kK : Int)) := cell_of_row _ _ 0 _ _ _ (heap_alloc_new w3 (.cells #[.int .u8 kK, .int .u32 kI, .string kN, .int .u32 kC] 75)); have p1 : (w3.alloc (.cells #[.int .u8 kK, .int .u32 kI, .string kN, .int .u32 kC] 75)).cell? ⟨w3.heap.size, 1, none⟩ = some (.int .u32 (kI : Int)) := cell_of_row _ _ 1 _ _ _ (heap_alloc_new w3 (.cells #[.int .u8 kK, .int .u32 kI, .string kN, .int .u32 kC] 75)); clear hb hb2))
          have HM3 := Lib.hid (HM.out.go HW3.out)
          rw [← HSN.out] at HM3
          exact ⟨⟨k + 1, by omega, by go_num, HM3.out⟩, by simp [intOf] <;> omega⟩
      · have e1 : ((kK : Int) == 2) = false := eqz2 (decide_eq_false hk2)
        have HSN := Lib.hid (HNO.out (by rw [HIE.out, decide_eq_false hk2, Bool.false_and]))
        clear hk2
        go_wp2_with (first
          | (go_at_call 25; (with_reducible refine (HP.out _).mono ?_); rintro e w3 ⟨rfl, hb⟩; have hb2 := hb.alloc hb.size (.cells #[.int .u8 kK, .int .u32 kI, .string kN, .int .u32 kC] 75); have HW3 := Lib.hid (HWa.out.trans (hb2.mono HWa.out.size)); have HQ3 := Lib.hid ((hb2.block _ HQL.out).trans HQ.out); have HQL3 := Lib.hid (Nat.lt_of_lt_of_le HQL.out hb2.size); have HK3 := Lib.hid (heap_alloc_new w3 (.cells #[.int .u8 kK, .int .u32 kI, .string kN, .int .u32 kC] 75)); have HKL := Lib.hid (show w3.heap.size < (w3.alloc (.cells #[.int .u8 kK, .int .u32 kI, .string kN, .int .u32 kC] 75)).heap.size by simp); have p0 : (w3.alloc (.cells #[.int .u8 kK, .int .u32 kI, .string kN, .int .u32 kC] 75)).cell? ⟨w3.heap.size, 0, none⟩ = some (.int .u8 (kK : Int)) := cell_of_row _ _ 0 _ _ _ (heap_alloc_new w3 (.cells #[.int .u8 kK, .int .u32 kI, .string kN, .int .u32 kC] 75)); have p1 : (w3.alloc (.cells #[.int .u8 kK, .int .u32 kI, .string kN, .int .u32 kC] 75)).cell? ⟨w3.heap.size, 1, none⟩ = some (.int .u32 (kI : Int)) := cell_of_row _ _ 1 _ _ _ (heap_alloc_new w3 (.cells #[.int .u8 kK, .int .u32 kI, .string kN, .int .u32 kC] 75)); clear hb hb2))
        have HM3 := Lib.hid (HM.out.go HW3.out)
        rw [← HSN.out] at HM3
        exact ⟨⟨k + 1, by omega, by go_num, HM3.out⟩, by simp [intOf] <;> omega⟩
    · have hkn : k = (pts L).length := by rw [pts_length]; have := HN.out; omega
      subst hkn
      have hm := HM.out
      rw [List.take_length] at hm
      have HMz := Lib.hid hm
      go_wp2_with fail
      go_ret2
      exact ⟨u8, by rw [HX0.out]; rfl, by rw [HL0.out]; exact HMz.out⟩
end Go.Proofs.YtngcogjjcidccaaGreat.Di
/- The walk of DirsAsks. -/
namespace Go.Proofs.YtngcogjjcidccaaGreat.Di
set_option linter.unusedVariables false
set_option linter.unusedSimpArgs false
set_option maxRecDepth 100000
open Go.ChangeShapes Go.WideShapes Go.ChangeAt Go.RowKit
open BigFrame
open Ar Rg
open Ino
open It (Itm)
variable {w w' wr : World} {L : List Itm}
theorem row_lt {b : Nat} {o : Obj} (h : w.heap[b]? = some o) : b < w.heap.size := (Array.getElem?_eq_some_iff.1 h).1
theorem rowE {b o : Nat} {e : En} (hr : w.rangeAt b o (encEn e)) : w.cell? ⟨b, o, none⟩ = some (.string e.n) ∧ w.cell? ⟨b, o + 1, none⟩ = some (.int .u32 e.i) ∧ w.cell? ⟨b, o + 2, none⟩ = some (.int .u8 e.k) := ⟨hr 0 _ rfl, hr 1 _ rfl, hr 2 _ rfl⟩
theorem lsL_len {n : Nat} (hn : n = L.length) (hm : n ≤ 1048576) (i : Nat) : (lsL L i).length ≤ 1048576 := by
  unfold lsL
  split
  · unfold lsE
    rw [List.length_map]
    refine Nat.le_trans (List.length_filter_le _ _) ?_
    rw [pts_length]
    omega
  · exact Nat.zero_le _
theorem NewR_any (w : World) : Calls Tryz.prog 17 #[] w fun e w' => ∃ A, e = .returned (.slice A 1 1) ∧ ItA w' A 1 [rootI] ∧ Below w.heap.size w w' := by
  have CK := Lib.hid (fun w => refKey_in kR kR_lim (Nat.zero_le _) w)
  have CE := Lib.hid (fun w => refEncode_in nR nR_lim (Nat.zero_le _) w)
  have h1 := chK_yes kR_ok
  have h2 := chI_yes nR_ok
  rw [h1.1, h1.2] at CK
  rw [h2.1, h2.2] at CE
  have HRT := Lib.hid (show rootI = ⟨wrK kR, wrI nR⟩ from rfl)
  generalize wrK kR = ks at *
  generalize wrI nR = vs at *
  unfold vK kR at CK
  unfold vI nR at CE
  dsimp only at CK CE
  clear h1 h2
  go_enter Tryz.func17, Tryz.ntmps17
  go_wp2_with (first
    | (go_at_call 33; refine (CK.out _).mono ?_; rintro e w1 ⟨rfl, hb1⟩; have HB1 := Lib.hid hb1; clear hb1)
    | (go_at_call 34; refine (CE.out _).mono ?_; rintro e w2 ⟨rfl, hb2⟩; have HB2 := Lib.hid (HB1.out.trans (hb2.mono HB1.out.size)); clear hb2))
  go_ret
  exact ⟨_, rfl, ⟨rfl, by decide, by
    rw [HRT.out]
    exact Ls.new (enc := It.enc) (k := 2) w2 ⟨ks, vs⟩ 72 _ (by simp)⟩, HB2.out.alloc HB2.out.size _⟩
set_option maxHeartbeats 2000000 in
theorem SameR_any {A A' : Option Addr} {n n' c c2 : Nat} (h : ItA w A n L) (h' : ItA w A' n' L) :
    Calls Tryz.prog 15 #[.slice A n c, .slice A' n' c2] w fun e w' => e = .returned (.bool true) ∧ Below w.heap.size w w' := by
  obtain rfl : n = n' := by rw [h.1, h'.1]
  have HN := Lib.hid h.1
  have hM := h.2.1
  have HD := Lib.hid h.2.2
  have HE := Lib.hid h'.2.2
  clear h h'
  go_enter Tryz.func15, Tryz.ntmps15
  go_wp2_with fail
  go_loopw [13] (fun v wr => ∃ i : Nat, i ≤ n ∧ v = .int .i64 i ∧ Hid (Below w.heap.size w wr)) (fun v _ => n - (intOf v).toNat)
  case atStart => exact ⟨0, Nat.zero_le _, by go_num, Below.refl _ _⟩
  case round =>
    obtain ⟨i, hi, rfl, hb⟩ := hrel
    have HB := Lib.hid (Hid.out hb)
    clear hb
    by_cases hlt : i < n
    · obtain ⟨x, hx⟩ : ∃ x, L[i]? = some x := ⟨_, List.getElem?_eq_getElem (by rw [← HN.out]; exact hlt)⟩
      obtain ⟨b, o, hAe, c0, c1⟩ := rowI (HD.out.below HB.out) hx
      obtain ⟨b', o', hAe', d0, d1⟩ := rowI (HE.out.below HB.out) hx
      subst hAe hAe'
      clear hx
      go_wp2_with fail
      go_big_quiet (fail)
      have HB2 := Lib.hid (It.below_drewN HB.out nq)
      generalize World.drewN _ _ = W2 at *
      go_wp2
      exact ⟨⟨i + 1, by omega, by go_num, HB2.out⟩, by simp [intOf] <;> omega⟩
    · go_wp2_with fail
      go_ret
      exact ⟨rfl, HB.out⟩
theorem nx_one {s : Vo} {j k : Nat} (h : Nx s j) (h' : Nx s k) : j = k := by
  rcases Nat.lt_trichotomy j k with e | e | e
  · have := h'.2.2.2 j h.1 e
    rw [h.2.2.1] at this; cases this
  · exact e
  · have := h.2.2.2 k h'.1 e
    rw [h'.2.2.1] at this; cases this
set_option maxHeartbeats 8000000 in
theorem dirsAsks_walk {A A' : Option Addr} {n n' c' : Nat} (c : Nat) {names : List ByteArray} (fo : Bool) (i : Nat) (hi : i < 4294967296) (h : ItA w A n L) (hN : NmA w A' n' c' names) :
    Calls Tryz.prog 3 #[.slice A n c, .slice A' n' c', .bool fo, .int .u32 (i : Int)] w fun e w' => e = .returned (.bool true) ∧ Below w.heap.size w w' := by
  have HLV := Lib.hid (fun (wx : World) => lives_any wx)
  have HW1 := Lib.hid (Walk_any c fo h hN)
  have HW2 := Lib.hid (fun (wx : World) (hb : Below w.heap.size w wx) => Walk_R c fo (h.go hb) (hN.go hb))
  have HG1 := Lib.hid (fun (wx : World) (hb : Below w.heap.size w wx) => Get_any c i hi (h.go hb))
  have HG2 := Lib.hid (fun (wx : World) (hb : Below w.heap.size w wx) => Get_R c i hi (h.go hb))
  have HL1 := Lib.hid (fun (wx : World) (hb : Below w.heap.size w wx) => List_any c i hi (h.go hb))
  have HL2 := Lib.hid (fun (wx : World) (hb : Below w.heap.size w wx) => List_R c i hi (h.go hb))
  have HN1 := Lib.hid (fun (wx : World) (hb : Below w.heap.size w wx) => Next_any c (h.go hb))
  have HN2 := Lib.hid (fun (wx : World) (hb : Below w.heap.size w wx) => Next_R c (h.go hb))
  have HC1 := Lib.hid (fun (wx : World) (hb : Below w.heap.size w wx) => Check_any c (h.go hb))
  have HC2 := Lib.hid (fun (wx : World) (hb : Below w.heap.size w wx) => CheckR_any c (h.go hb))
  have HJJ := Lib.hid (fun (j k : Nat) (h1 : if rgt L then Nx (vo (pts L)) j else j = 0) (h2 : if rgt L then Nx (vo (pts L)) k else k = 0) => show j = k by
    cases hr : rgt L
    · rw [hr] at h1 h2
      have e1 : j = 0 := h1
      have e2 : k = 0 := h2
      rw [e1, e2]
    · rw [hr] at h1 h2
      exact nx_one h1 h2)
  have hDl := lsL_len h.1 h.2.1 i
  generalize wlk L fo names = P at *
  generalize gtI L i = g at *
  generalize gtE L i = ge at *
  generalize lsL L i = D at *
  generalize lsX L i = X at *
  generalize ckE L = ck at *
  obtain ⟨a, x⟩ := P
  obtain ⟨gK, gM, gL, gS, gT⟩ := g
  unfold vI at HG1 HG2
  dsimp only at HG1 HG2 HW1 HW2
  clear h hN hi
  go_enter Tryz.func3, Tryz.ntmps3
  go_wp2_with (first
    | (go_at_call 4; (with_reducible refine (HW1.out).mono ?_); rintro e w1 ⟨rfl, hb⟩; have HB1 := Lib.hid hb; clear hb)
    | (go_at_call 5; (with_reducible refine (HW2.out _ HB1.out).mono ?_); rintro e w2 ⟨rfl, hb⟩; have HB2 := Lib.hid (HB1.out.trans (hb.mono HB1.out.size)); clear hb)
    | (go_at_call 6; (with_reducible refine (HG1.out _ HB2.out).mono ?_); rintro e w3 ⟨rfl, hb⟩; have HB3 := Lib.hid (HB2.out.trans ((hb.alloc hb.size (.cells #[.int .u8 gK, .int .u16 gM, .int .u32 gL, .int .u32 gS, .string gT] 31)).mono HB2.out.size)); have HRa3 := Lib.hid (heap_alloc_new w3 (.cells #[.int .u8 gK, .int .u16 gM, .int .u32 gL, .int .u32 gS, .string gT] 31)); clear hb)
    | (go_at_call 7; (with_reducible refine (HG2.out _ HB3.out).mono ?_); rintro e w4 ⟨rfl, hb⟩; have hb2 := hb.alloc hb.size (.cells #[.int .u8 gK, .int .u16 gM, .int .u32 gL, .int .u32 gS, .string gT] 31); have HB4 := Lib.hid (HB3.out.trans (hb2.mono HB3.out.size)); have HRa4 := Lib.hid ((hb2.block _ (row_lt HRa3.out)).trans HRa3.out); have HRb4 := Lib.hid (heap_alloc_new w4 (.cells #[.int .u8 gK, .int .u16 gM, .int .u32 gL, .int .u32 gS, .string gT] 31)); clear hb hb2)
    | (go_at_call 8; (with_reducible refine (HL1.out _ HB4.out).mono ?_); rintro e w5 ⟨v5, rfl, hm⟩; have hb : Below _ _ _ := hm.2; have HB5 := Lib.hid (HB4.out.trans (hb.mono HB4.out.size)); have HRa5 := Lib.hid ((hb.block _ (row_lt HRa4.out)).trans HRa4.out); have HRb5 := Lib.hid ((hb.block _ (row_lt HRb4.out)).trans HRb4.out); obtain ⟨A5, c5, rfl, _, _, hls⟩ := hm.ls encEn_len; have HD5 := Lib.hid hls; clear hm hb hls)
    | (go_at_call 9; (with_reducible refine (HL2.out _ HB5.out).mono ?_); rintro e w6 ⟨v6, rfl, hm⟩; have hb : Below _ _ _ := hm.2; have HB6 := Lib.hid (HB5.out.trans (hb.mono HB5.out.size)); have HRa6 := Lib.hid ((hb.block _ (row_lt HRa5.out)).trans HRa5.out); have HRb6 := Lib.hid ((hb.block _ (row_lt HRb5.out)).trans HRb5.out); have HD6 := Lib.hid ((HD5.out.below hb).more hb.size); obtain ⟨A6, c6, rfl, _, _, hls⟩ := hm.ls encEn_len; have HE6 := Lib.hid hls; clear hm hb hls)
    | (go_at_call 10; (with_reducible refine (HN1.out _ HB6.out).mono ?_); rintro e w7 ⟨j, rfl, hj, hb⟩; have HB7 := Lib.hid (HB6.out.trans (hb.mono HB6.out.size)); have HRa7 := Lib.hid ((hb.block _ (row_lt HRa6.out)).trans HRa6.out); have HRb7 := Lib.hid ((hb.block _ (row_lt HRb6.out)).trans HRb6.out); have HD7 := Lib.hid ((HD6.out.below hb).more hb.size); have HE7 := Lib.hid ((HE6.out.below hb).more hb.size); have HJ1 := Lib.hid hj; clear hj; clear hb)
    | (go_at_call 11; (with_reducible refine (HN2.out _ HB7.out).mono ?_); rintro e w8 ⟨j2, rfl, hj, hb⟩; have HB8 := Lib.hid (HB7.out.trans (hb.mono HB7.out.size)); have HRa8 := Lib.hid ((hb.block _ (row_lt HRa7.out)).trans HRa7.out); have HRb8 := Lib.hid ((hb.block _ (row_lt HRb7.out)).trans HRb7.out); have HD8 := Lib.hid ((HD7.out.below hb).more hb.size); have HE8 := Lib.hid ((HE7.out.below hb).more hb.size); obtain rfl := HJJ.out j j2 HJ1.out hj; clear hj; clear hb)
    | (go_at_call 12; (with_reducible refine (HLV.out _).mono ?_); rintro e w9 ⟨rfl, hb⟩; have HB9 := Lib.hid (HB8.out.trans (hb.mono HB8.out.size)); have HRa9 := Lib.hid ((hb.block _ (row_lt HRa8.out)).trans HRa8.out); have HRb9 := Lib.hid ((hb.block _ (row_lt HRb8.out)).trans HRb8.out); have HD9 := Lib.hid ((HD8.out.below hb).more hb.size); have HE9 := Lib.hid ((HE8.out.below hb).more hb.size); clear hb)
    | (refine wpList_load_row_g 31 (.tmp 13) rfl (by rfl) w3.heap.size rfl 31 #[.int .u8 gK, .int .u16 gM, .int .u32 gL, .int .u32 gS, .string gT] (0, 0) _ HRa9.out Tryz.underlying31 rfl (by kernel_rfl) ?_)
    | (refine wpList_load_row_g 31 (.tmp 15) rfl (by rfl) w4.heap.size rfl 31 #[.int .u8 gK, .int .u16 gM, .int .u32 gL, .int .u32 gS, .string gT] (0, 0) _ HRb9.out Tryz.underlying31 rfl (by kernel_rfl) ?_)
    | (go_at_call 13; (with_reducible refine (HC1.out _ HB9.out).mono ?_); rintro e w10 ⟨rfl, hb⟩; have HB10 := Lib.hid (HB9.out.trans (hb.mono HB9.out.size)); have HDa := Lib.hid ((HD9.out.below hb).more hb.size); have HEa := Lib.hid ((HE9.out.below hb).more hb.size); clear hb)
    | (go_at_call 14; (with_reducible refine (HC2.out _ HB10.out).mono ?_); rintro e w11 ⟨rfl, hb⟩; have HB11 := Lib.hid (HB10.out.trans (hb.mono HB10.out.size)); have HDb := Lib.hid ((HDa.out.below hb).more hb.size); have HEb := Lib.hid ((HEa.out.below hb).more hb.size); clear hb)
    | (go_at_call 16; (with_reducible refine (New_any _).mono ?_); rintro e w12 ⟨A12, rfl, h12, hb⟩; have HB12 := Lib.hid (HB11.out.trans (hb.mono HB11.out.size)); have HDc := Lib.hid ((HDb.out.below hb).more hb.size); have HEc := Lib.hid ((HEb.out.below hb).more hb.size); have HI12 := Lib.hid h12; clear h12; clear hb)
    | (go_at_call 17; (with_reducible refine (NewR_any _).mono ?_); rintro e w13 ⟨A13, rfl, h13, hb⟩; have HB13 := Lib.hid (HB12.out.trans (hb.mono HB12.out.size)); have HDd := Lib.hid ((HDc.out.below hb).more hb.size); have HEd := Lib.hid ((HEc.out.below hb).more hb.size); have HI13 := Lib.hid (HI12.out.go hb); have HJ13 := Lib.hid h13; clear h13; clear hb)
    | (go_at_call 15; (with_reducible refine (SameR_any (c := 1) (c2 := 1) HI13.out HJ13.out).mono ?_); rintro e w14 ⟨rfl, hb⟩; have HB14 := Lib.hid (HB13.out.trans (hb.mono HB13.out.size)); have HDe := Lib.hid ((HDd.out.below hb).more hb.size); have HEe := Lib.hid ((HEd.out.below hb).more hb.size); clear hb))
  go_loopw [133] (fun v wr => ∃ k : Nat, k ≤ D.length ∧ v = .int .i64 k ∧ Hid (Below w14.heap.size w14 wr)) (fun v _ => D.length - (intOf v).toNat)
  case atStart => exact ⟨0, Nat.zero_le _, by go_num, Below.refl _ _⟩
  case round =>
    obtain ⟨k, hk, rfl, hb⟩ := hrel
    have HB := Lib.hid (Hid.out hb)
    clear hb
    by_cases hlt : k < D.length
    · obtain ⟨en, hen⟩ : ∃ en, D[k]? = some en := ⟨_, List.getElem?_eq_getElem hlt⟩
      obtain ⟨b, o, hAe, hb1, hr1⟩ := (HDe.out.below HB.out) k en hen
      obtain ⟨b', o', hAe', hb2, hr2⟩ := (HEe.out.below HB.out) k en hen
      obtain ⟨r0, r1, r2⟩ := rowE hr1
      obtain ⟨s0, s1, s2⟩ := rowE hr2
      subst hAe hAe'
      clear hen hr1 hr2 hb1 hb2
      go_wp2_with fail
      go_big_quiet (fail)
      have HB2z := Lib.hid (It.below_drewN HB.out nq)
      generalize World.drewN _ _ = W2 at *
      go_wp2
      exact ⟨⟨k + 1, by omega, by go_num, HB2z.out⟩, by simp [intOf] <;> omega⟩
    · go_wp2_with fail
      go_ret
      exact ⟨rfl, HB14.out.trans (HB.out.mono HB14.out.size)⟩
end Go.Proofs.YtngcogjjcidccaaGreat.Di
