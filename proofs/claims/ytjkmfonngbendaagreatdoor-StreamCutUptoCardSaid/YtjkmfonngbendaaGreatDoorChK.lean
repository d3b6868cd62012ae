/- Contract of package slices' symMergeCmpFunc at changes: two neighbouring stretches, each in order, become one in order; those of one key stay as they stood. -/
import Derived.Test.YtjkmfonngbendaaGreatDoorChI
import Derived.Test.YtjkmfonngbendaaGreatDoorChJ
namespace Go.Proofs.YtjkmfonngbendaaGreatDoor.Sc
set_option linter.unusedVariables false
set_option maxRecDepth 100000
open Go.ChangeShapes Go.WideShapes Go.ChangeAt Go.RowKit
open Ar Rg St
theorem sym_ok : ∀ n, SymOK n
  | 0 => fun P X Y R D hD hX hY hn => by omega
  | n + 1 => by
    intro P X Y R D hD hX hY hn sX sY g cap N hN hL hm w hA a m b ha hmm hb
    by_cases h1 : X.length = 1
    · obtain ⟨x, rfl⟩ := List.length_eq_one_iff.1 h1
      exact sym_left P Y R D x hD hY sY g cap N hN hL hm w hA a m b ha (by rw [hmm]; rfl) (by rw [hb]; rfl)
    by_cases h2 : Y.length = 1
    · obtain ⟨y, rfl⟩ := List.length_eq_one_iff.1 h2
      exact sym_right P X R D y hD (by omega) sX g cap N hN hL hm w hA a m b ha hmm (by rw [hb]; rfl)
    by_cases hw : (a + b) / 2 < m
    · exact sym_gt n (sym_ok n) P X Y R D hD (by omega) (by omega) (by omega) sX sY g cap N hN hL hm w hA a m b ha hmm hb hw
    · exact sym_le n (sym_ok n) P X Y R D hD (by omega) (by omega) (by omega) sX sY g cap N hN hL hm w hA a m b ha hmm hb (by omega)
theorem sym_any (P X Y R D : List Ch) (hD : D = P ++ (X ++ (Y ++ R))) (hX : 0 < X.length) (hY : 0 < Y.length) (sX : Srt key lt X) (sY : Srt key lt Y) (g cap N : Nat) (hN : N = D.length) (hL : N ≤ cap) (hm : N ≤ 281474976710656) (w : World) (hA : Arr enc 3 w g D) (a m b : Int) (ha : a = (P.length : Int)) (hmm : m = (P.length : Int) + X.length) (hb : b = (P.length : Int) + X.length + Y.length) :
    Calls Tryz.prog 172 #[.slice (some ⟨g, 0, none⟩) N cap, .int .i64 a, .int .i64 m, .int .i64 b, CMP] w fun e w' => e = .returned (.tuple #[]) ∧ Merged P X Y R g w w' :=
  sym_ok (X.length + Y.length + 1) P X Y R D hD hX hY (by omega) sX sY g cap N hN hL hm w hA a m b ha hmm hb
end Go.Proofs.YtjkmfonngbendaaGreatDoor.Sc
