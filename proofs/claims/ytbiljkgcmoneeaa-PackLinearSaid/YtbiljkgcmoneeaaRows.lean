/-
  No cell of these rows narrows 'for every input' (looked for: loops, veiled, ifaces, maps, wideKeys, modest, calm, conditions, laid).
  DERIVED. THE GIVEN ROWS OF THIS SEAT. 4 by the template 'for every input the law returns true; each argument reads behind the call as it read before'; 0 by the template 'total and deterministic' (their statements: YtbiljkgcmoneeaaTotals.lean).
  GIVEN WITH THE SEED: the statements are not yours to turn. If you find one false, say at which input.
  Laid BY PROGRAM, IN A SANDBOX (cutbox-rows.mjs): the forced cells as the released guide's own fill.sh prints them over the translation 66989476554f3aac… (all of the seat's roots in one cut). By AI agents, Wed Nov 11 2026. No macro, syntax, notation, axiom, sorry.
-/
import Derived.Test.YtbiljkgcmoneeaaChecked
import GoSem.Claim
import GoSem.ClaimJoined
import GoSem.ClaimMapViews
import Derived.JoinedTies
import Derived.KernelRfl
namespace Go.Proofs.Ytbiljkgcmoneeaa
/- THE CELL 'sum', in the pinned program and in every row, IS THE sha256 OF THE DUMP (.gsa) THAT YtbiljkgcmoneeaaProg.lean LOADS. Nothing in Lean hashes anything: it is a label: what it is worth is what the hold of that sum in a sandbox is worth. -/
noncomputable def Try.pinned : Pinned := { name := "ytbiljkgcmoneeaa", sum := "66989476554f3aacde0831da7d3a763da4765f9a0293bf44e7a06ef5f3626503", checked := Try.checked }
namespace Rows
def none {H : Type} : Left H := { results := [], args := [] }

/-- 'cambiumlaw01.PackSums': WHATEVER THE INPUT: true; the input reads as it did. -/
def packSumsSpec : ChangeSpec := { name := "packSums", fn := fun _ => fun
  | [d] => { results := [.lit (.bool true)], args := [d] }
  | _ => none }
def packSumsRow : OpenClaim := { program := "ytbiljkgcmoneeaa", sum := "66989476554f3aacde0831da7d3a763da4765f9a0293bf44e7a06ef5f3626503", func := "cambium/cambiumlaw01.PackSums", spec := "packSums", inPlace := ["sync/atomic.AddInt64", "sync/atomic.LoadInt64"], apart := false }
def PackSumsSaid : Prop := packSumsRow.holds Try.pinned (OpenSpec.ofChange packSumsSpec)

/-- ITS FALSE NEIGHBOUR: 'it returns false'. Refute it at one input. -/
def packSumsWrong : ChangeSpec := { name := "packSums", fn := fun _ => fun
  | [d] => { results := [.lit (.bool false)], args := [d] }
  | _ => none }
def PackSumsWrongFalsely : Prop := packSumsRow.holds Try.pinned (OpenSpec.ofChange packSumsWrong)

/-- 'cambiumlaw01.PackTurned': WHATEVER THE INPUT: true; the input reads as it did. -/
def packTurnedSpec : ChangeSpec := { name := "packTurned", fn := fun _ => fun
  | [d1, d2, d3] => { results := [.lit (.bool true)], args := [d1, d2, d3] }
  | _ => none }
def packTurnedRow : OpenClaim := { program := "ytbiljkgcmoneeaa", sum := "66989476554f3aacde0831da7d3a763da4765f9a0293bf44e7a06ef5f3626503", func := "cambium/cambiumlaw01.PackTurned", spec := "packTurned", inPlace := ["sync/atomic.AddInt64", "sync/atomic.LoadInt64"], apart := false }
def PackTurnedSaid : Prop := packTurnedRow.holds Try.pinned (OpenSpec.ofChange packTurnedSpec)

/-- ITS FALSE NEIGHBOUR: 'it returns false'. Refute it at one input. -/
def packTurnedWrong : ChangeSpec := { name := "packTurned", fn := fun _ => fun
  | [d1, d2, d3] => { results := [.lit (.bool false)], args := [d1, d2, d3] }
  | _ => none }
def PackTurnedWrongFalsely : Prop := packTurnedRow.holds Try.pinned (OpenSpec.ofChange packTurnedWrong)

/-- 'cambiumlaw01.PackLinear': WHATEVER THE INPUT: true; the input reads as it did. -/
def packLinearSpec : ChangeSpec := { name := "packLinear", fn := fun _ => fun
  | [d1, d2] => { results := [.lit (.bool true)], args := [d1, d2] }
  | _ => none }
def packLinearRow : OpenClaim := { program := "ytbiljkgcmoneeaa", sum := "66989476554f3aacde0831da7d3a763da4765f9a0293bf44e7a06ef5f3626503", func := "cambium/cambiumlaw01.PackLinear", spec := "packLinear", inPlace := ["sync/atomic.AddInt64", "sync/atomic.LoadInt64"], apart := false }
def PackLinearSaid : Prop := packLinearRow.holds Try.pinned (OpenSpec.ofChange packLinearSpec)

/-- ITS FALSE NEIGHBOUR: 'it returns false'. Refute it at one input. -/
def packLinearWrong : ChangeSpec := { name := "packLinear", fn := fun _ => fun
  | [d1, d2] => { results := [.lit (.bool false)], args := [d1, d2] }
  | _ => none }
def PackLinearWrongFalsely : Prop := packLinearRow.holds Try.pinned (OpenSpec.ofChange packLinearWrong)

/-- 'cambiumlaw01.PackLeading': WHATEVER THE INPUT: true; the input reads as it did. -/
def packLeadingSpec : ChangeSpec := { name := "packLeading", fn := fun _ => fun
  | [d1, d2] => { results := [.lit (.bool true)], args := [d1, d2] }
  | _ => none }
def packLeadingRow : OpenClaim := { program := "ytbiljkgcmoneeaa", sum := "66989476554f3aacde0831da7d3a763da4765f9a0293bf44e7a06ef5f3626503", func := "cambium/cambiumlaw01.PackLeading", spec := "packLeading", inPlace := ["sync/atomic.AddInt64", "sync/atomic.LoadInt64"], apart := false }
def PackLeadingSaid : Prop := packLeadingRow.holds Try.pinned (OpenSpec.ofChange packLeadingSpec)

/-- ITS FALSE NEIGHBOUR: 'it returns false'. Refute it at one input. -/
def packLeadingWrong : ChangeSpec := { name := "packLeading", fn := fun _ => fun
  | [d1, d2] => { results := [.lit (.bool false)], args := [d1, d2] }
  | _ => none }
def PackLeadingWrongFalsely : Prop := packLeadingRow.holds Try.pinned (OpenSpec.ofChange packLeadingWrong)

/- THE SECOND FORM. 'bulk': how many values and letters a reading holds, each counted each time it is reached (what is shared counts as often as it is met; a slice's spare places count too). A statement '..UptoSaid' is the law's where the arguments, and the package variables that the reading takes, are together of bulk at most 1048576: NARROWER than '..Said'. Prove '..Said' where nothing that the law and all that it calls make is longer than what came in: it says more and counts as full. Else prove '..UptoSaid'. A law counts once. -/
mutual
def uptoBulk {H : Type} : DataW H → Nat
  | .lit (.string bytes) => bytes.length + 1
  | .lit _ => 1
  | .nil => 1
  | .ptr d => uptoBulk d + 1
  | .slice elems spare => uptoBulkAll elems + uptoBulkAll spare + 1
  | .agg parts => uptoBulkAll parts + 1
  | .iface _ d => uptoBulk d + 1
  | .map entries => uptoBulkEntries entries + 1
  | .held _ => 1
def uptoBulkAll {H : Type} : List (DataW H) → Nat
  | [] => 0
  | d :: r => uptoBulk d + uptoBulkAll r
def uptoBulkEntries {H : Type} : List (Lit × DataW H) → Nat
  | [] => 0
  | x :: r => uptoBulkEntry x + uptoBulkEntries r
def uptoBulkEntry {H : Type} : Lit × DataW H → Nat
  | (.string bytes, d) => bytes.length + uptoBulk d + 1
  | (_, d) => uptoBulk d + 1
 end
def uptoSmall : (H : Type) → List (DataW H) → Bool := fun _ ds => decide (uptoBulkAll ds ≤ 1048576)
def OpenSpec.upto (s : _root_.Go.ChangeSpec) : _root_.Go.OpenSpec := { _root_.Go.OpenSpec.ofChange s with cond := some uptoSmall }

/-- 'cambiumlaw01.PackSums', WHERE WHAT IT READS IS OF BULK AT MOST 1048576: true; the input reads as it did. -/
def packSumsUptoRow : OpenClaim := { program := "ytbiljkgcmoneeaa", sum := "66989476554f3aacde0831da7d3a763da4765f9a0293bf44e7a06ef5f3626503", func := "cambium/cambiumlaw01.PackSums", spec := "packSums", inPlace := ["sync/atomic.AddInt64", "sync/atomic.LoadInt64"], apart := false, narrowed := true }
def PackSumsUptoSaid : Prop := packSumsUptoRow.holds Try.pinned (OpenSpec.upto packSumsSpec)

/-- 'cambiumlaw01.PackTurned', WHERE WHAT IT READS IS OF BULK AT MOST 1048576: true; the input reads as it did. -/
def packTurnedUptoRow : OpenClaim := { program := "ytbiljkgcmoneeaa", sum := "66989476554f3aacde0831da7d3a763da4765f9a0293bf44e7a06ef5f3626503", func := "cambium/cambiumlaw01.PackTurned", spec := "packTurned", inPlace := ["sync/atomic.AddInt64", "sync/atomic.LoadInt64"], apart := false, narrowed := true }
def PackTurnedUptoSaid : Prop := packTurnedUptoRow.holds Try.pinned (OpenSpec.upto packTurnedSpec)

/-- 'cambiumlaw01.PackLinear', WHERE WHAT IT READS IS OF BULK AT MOST 1048576: true; the input reads as it did. -/
def packLinearUptoRow : OpenClaim := { program := "ytbiljkgcmoneeaa", sum := "66989476554f3aacde0831da7d3a763da4765f9a0293bf44e7a06ef5f3626503", func := "cambium/cambiumlaw01.PackLinear", spec := "packLinear", inPlace := ["sync/atomic.AddInt64", "sync/atomic.LoadInt64"], apart := false, narrowed := true }
def PackLinearUptoSaid : Prop := packLinearUptoRow.holds Try.pinned (OpenSpec.upto packLinearSpec)

/-- 'cambiumlaw01.PackLeading', WHERE WHAT IT READS IS OF BULK AT MOST 1048576: true; the input reads as it did. -/
def packLeadingUptoRow : OpenClaim := { program := "ytbiljkgcmoneeaa", sum := "66989476554f3aacde0831da7d3a763da4765f9a0293bf44e7a06ef5f3626503", func := "cambium/cambiumlaw01.PackLeading", spec := "packLeading", inPlace := ["sync/atomic.AddInt64", "sync/atomic.LoadInt64"], apart := false, narrowed := true }
def PackLeadingUptoSaid : Prop := packLeadingUptoRow.holds Try.pinned (OpenSpec.upto packLeadingSpec)

end Rows
end Go.Proofs.Ytbiljkgcmoneeaa
