/- Plain mathematics of superblocks as bytes. No walk here. -/
import Derived.Test.YtnfcgifkghegjaaGreatDoorNdN
namespace Go.Proofs.YtnfcgifkghegjaaGreatDoor.Sp
set_option linter.unusedVariables false
set_option linter.unusedSimpArgs false
open Nd
open Pk (be num be_length)
/-- a superblock, as plain data -/
structure Su where
  Z : Nat
  G : Nat
  T : Nat
  hs : List UInt8
def Su.lim (s : Su) : Prop := s.Z < 4294967296 ∧ s.G < 18446744073709551616 ∧ s.T < 4294967296 ∧ s.hs.length = 32
def okS (s : Su) : Bool := (decide (16 ≤ s.Z) && decide (s.Z ≤ 65536)) && ((decide (1 ≤ s.G) && decide (s.G ≤ 4611686018427387904)) && (decide (2 ≤ s.T) && decide (s.T < s.Z)))
def cS : Cod Su := ((cNum 4).pair ((cNum 8).pair ((cNum 4).pair cHash))).as (fun p => ⟨p.1, p.2.1, p.2.2.1, p.2.2.2⟩) fun s => (s.Z, s.G, s.T, s.hs)
theorem cS_good : cS.Good := ((num_good 4).pair ((num_good 8).pair ((num_good 4).pair hash_good))).as (fun _ => rfl) (fun _ _ => rfl)
theorem cS_ok {s : Su} (h : s.lim) : cS.ok s := ⟨show s.Z < 256 ^ 4 by have := h.1; omega, show s.G < 256 ^ 8 by have := h.2.1; omega, show s.T < 256 ^ 4 by have := h.2.2.1; omega, h.2.2.2⟩
/-- a superblock's bytes -/
def wS (s : Su) : List UInt8 := [67, 66] ++ cS.wr s
theorem wS_eq (s : Su) : wS s = [67, 66] ++ (be 4 s.Z ++ (be 8 s.G ++ (be 4 s.T ++ s.hs))) := rfl
theorem wS_len {s : Su} (h : s.hs.length = 32) : (wS s).length = 50 := by
  rw [wS_eq, List.length_append, List.length_append, List.length_append, List.length_append, be_length, be_length, be_length, h]
  rfl
def chS (s : Su) : Int := if okS s then 0 else 4
def enS (s : Su) : ByteArray := if okS s then bs (sealL (wS s)) else ByteArray.empty
theorem chS_yes {s : Su} (h : okS s = true) : chS s = 0 ∧ enS s = bs (sealL (wS s)) := by unfold chS enS; rw [h]; exact ⟨rfl, rfl⟩
theorem chS_no {s : Su} (h : okS s = false) : chS s = 4 ∧ enS s = ByteArray.empty := by unfold chS enS; rw [h]; exact ⟨rfl, rfl⟩
theorem wS_inj {a b : Su} (la : a.lim) (lb : b.lim) (h : wS a = wS b) : a = b := by
  have h1 : cS.wr a = cS.wr b := List.append_cancel_left h
  have e1 := cS_good.back a [] false (cS_ok la)
  have e2 := cS_good.back b [] false (cS_ok lb)
  rw [h1, e2] at e1
  exact (congrArg Prod.fst e1).symm
theorem fillz_inj {x y : List UInt8} {m n : Nat} (hx : x.length = n) (hy : y.length = n) (h : fillz x m = fillz y m) : x = y := by
  unfold fillz at h
  have := congrArg (List.take n) h
  rwa [List.take_append_of_le_length (by omega), List.take_append_of_le_length (by omega), List.take_of_length_le (by omega), List.take_of_length_le (by omega)] at this
theorem seal_inj {x y : List UInt8} (hx : x.length = 50) (hy : y.length = 50) (h : sealL x = sealL y) : x = y := by
  have e1 := open_seal (b := x) (by omega)
  have e2 := open_seal (b := y) (by omega)
  rw [h, e2] at e1
  exact fillz_inj hx hy (Option.some.inj e1).symm
theorem enS_inj {a b : Su} (la : a.lim) (lb : b.lim) (ha : okS a = true) (hb : okS b = true) : enS a = enS b ↔ a = b := by
  constructor
  · intro h
    rw [(chS_yes ha).2, (chS_yes hb).2] at h
    have h2 : sealL (wS a) = sealL (wS b) := congrArg (fun s : ByteArray => s.data.toList) h
    exact wS_inj la lb (seal_inj (wS_len la.2.2.2) (wS_len lb.2.2.2) h2)
  · intro h; rw [h]
/-- what stands in data where a superblock's fields do, be they one's or not -/
def tkS (d : ByteArray) : Su := (cS.tk (((d.data.toList ++ List.replicate 512 0).drop 6), false)).1
def deS (d : ByteArray) : Option Su := if okS (tkS d) = true ∧ enS (tkS d) = d then some (tkS d) else none
def slotS (s : Su) : Nat := s.G % 2
end Go.Proofs.YtnfcgifkghegjaaGreatDoor.Sp
