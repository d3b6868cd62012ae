/- Contract of the document's find: where a key is, looked for from the front. -/
import Derived.Test.YtpchkmjpmlbbgaaItG
namespace Go.Proofs.Ytpchkmjpmlbbgaa.It
set_option linter.unusedVariables false
open Go.ChangeShapes Go.WideShapes Go.ChangeAt Go.RowKit
open Ar Rg St
def No (D : List Itm) (k : ByteArray) (i : Nat) : Prop := ∀ y ∈ D.take i, key y ≠ k.data.toList
theorem No.zero (D : List Itm) (k : ByteArray) : No D k 0 := by intro y hy; simp at hy
theorem No.more {D : List Itm} {k : ByteArray} {i : Nat} {x : Itm} (h : No D k i) (hx : D[i]? = some x) (hk : key x ≠ k.data.toList) : No D k (i + 1) := by
  intro y hy
  have e : D.take (i + 1) = D.take i ++ [x] := by rw [List.take_add_one, hx]; rfl
  rw [e] at hy
  rcases List.mem_append.1 hy with hy | hy
  · exact h y hy
  · simp at hy; subst hy; exact hk
theorem No.get_none {D : List Itm} {k : ByteArray} {i : Nat} (h : No D k i) (hi : D.length ≤ i) : get D k = none := by
  unfold get
  rw [Option.map_eq_none_iff, List.find?_eq_none]
  intro x hx
  have := h x (by rw [List.take_of_length_le hi]; exact hx)
  simpa using this
theorem No.get_some {D : List Itm} {k : ByteArray} {i : Nat} {x : Itm} (h : No D k i) (hx : D[i]? = some x) (hk : key x = k.data.toList) : get D k = some x.v := by
  have e : D = D.take i ++ x :: D.drop (i + 1) := by rw [← drop_at hx, List.take_append_drop]
  unfold get
  rw [e, List.find?_append]
  have hn : (D.take i).find? (fun x => decide (key x = k.data.toList)) = none := by
    rw [List.find?_eq_none]
    intro y hy
    have := h y hy
    simpa using this
  rw [hn, Option.none_or, List.find?_cons_of_pos (by simpa using hk)]
  rfl
theorem str_eq (a b : ByteArray) : (a.toList == b.toList) = decide (a.data.toList = b.data.toList) := by
  rw [ByteArray.toList_eq, ByteArray.toList_eq, Bool.eq_iff_iff]
  simp
/-- -1 and none, or a place and what is there -/
def FindV (D : List Itm) (k : ByteArray) (v : Int) : Prop := (v = -1 ∧ get D k = none) ∨ ∃ (p : Nat) (y : Itm), v = p ∧ D[p]? = some y ∧ get D k = some y.v
set_option maxRecDepth 100000 in
set_option maxHeartbeats 600000 in
theorem find_any (D : List Itm) (k : ByteArray) (A : Option Addr) (n cap B : Nat) (hn : n = D.length) (hm : n ≤ 281474976710656) (w : World) (hB : B ≤ w.heap.size) (hD : Ls enc 2 w B A D) :
    Calls Try.prog 27 #[.slice A n cap, .string k] w fun e w' => ∃ v, FindV D k v ∧ e = .returned (.int .i64 v) ∧ Below w.heap.size w w' := by
  have HN := Lib.hid hn
  have HD := Lib.hid hD
  clear hn hD
  go_enter Try.func27, Try.ntmps27
  go_wp2_with fail
  go_loopw [9] (fun v wr => ∃ i : Nat, i ≤ n ∧ v = .int .i64 i ∧ Hid (No D k i) ∧ Hid (Below w.heap.size w wr)) (fun v _ => n - (intOf v).toNat)
  case atStart => exact ⟨0, Nat.zero_le _, by go_num, No.zero D k, Below.refl _ _⟩
  case round =>
    obtain ⟨i, hi, rfl, hno, hbel⟩ := hrel
    by_cases hlt : i < n
    · obtain ⟨x, hx⟩ : ∃ x, D[i]? = some x := ⟨_, List.getElem?_eq_getElem (by rw [← HN.out]; exact hlt)⟩
      obtain ⟨b, o, hAe, hb, hr⟩ := (HD.out.below ((Hid.out hbel).mono hB)) i x hx
      have hbs : b < wr.heap.size := Nat.lt_of_lt_of_le hb (Nat.le_trans hB (Hid.out hbel).size)
      have hc0 : wr.cell? ⟨b, o + i * 2, none⟩ = some (.string x.k) := hr 0 _ rfl
      have hc1 : wr.cell? ⟨b, o + i * 2 + 1, none⟩ = some (.string x.v) := hr 1 _ rfl
      clear hr
      subst hAe
      have HBN := Lib.hid (show Below w.heap.size w (wr.alloc (.cells #[.string x.k, .string x.v] 43)) from (Hid.out hbel).alloc (Hid.out hbel).size _)
      by_cases hk : key x = k.data.toList
      · have he : (x.k.toList == k.toList) = true := by rw [str_eq]; exact decide_eq_true hk
        have HF := Lib.hid (show FindV D k (i : Int) from .inr ⟨i, x, rfl, hx, (Hid.out hno).get_some hx hk⟩)
        clear hno hx hk
        go_wp2
        go_ret
        exact ⟨_, HF.out, rfl, HBN.out⟩
      · have he : (x.k.toList == k.toList) = false := by rw [str_eq]; exact decide_eq_false hk
        have HNO := Lib.hid ((Hid.out hno).more hx hk)
        clear hno hx hk
        go_wp2
        exact ⟨⟨i + 1, by omega, by go_num, HNO.out, HBN.out⟩, by simp [intOf] <;> omega⟩
    · have HF := Lib.hid (show FindV D k (-1) from .inl ⟨rfl, (Hid.out hno).get_none (by rw [← HN.out]; omega)⟩)
      clear hno
      go_wp2
      go_ret
      exact ⟨_, HF.out, rfl, Hid.out hbel⟩
end Go.Proofs.Ytpchkmjpmlbbgaa.It
