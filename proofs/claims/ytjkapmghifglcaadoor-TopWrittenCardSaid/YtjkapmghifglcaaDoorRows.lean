/-
  NARROWER THAN 'FOR EVERY INPUT', by the rows' own cells (each row's printed sentence says how): DevWrites: laid · DevCrashes: laid · DevSafe: laid · DevWhole: laid · DevLast: laid · DevAgain: laid · DevRight: laid · DevSpoilt: laid · DevKept: laid · TopWritten: laid.
  DERIVED. THE GIVEN ROWS OF THIS SEAT. 10 by the template 'for every input the law returns true; each argument reads behind the call as it read before'; 0 by the template 'total and deterministic' (their statements: YtjkapmghifglcaaDoorTotals.lean).
  GIVEN WITH THE SEED: the statements are not yours to turn. If you find one false, say at which input.
  Laid BY PROGRAM, IN A SANDBOX (cutbox-rows.mjs): the forced cells as the released guide's own fill.sh prints them over the translation 0fa0b7a7fe89771a… (all of the seat's roots in one cut). By AI agents, Wed Nov 11 2026. No macro, syntax, notation, axiom, sorry.
-/
import Derived.Test.YtjkapmghifglcaaDoorChecked
import GoSem.PinnedTables
import GoSem.Claim
import GoSem.ClaimJoined
import GoSem.ClaimMapViews
import Derived.JoinedTies
import Derived.KernelRfl
namespace Go.Proofs.YtjkapmghifglcaaDoor
/- THE CELL 'sum', in the pinned program and in every row, IS THE sha256 OF THE DUMP (.gsa) THAT YtjkapmghifglcaaDoorProg.lean LOADS. Nothing in Lean hashes anything: it is a label: what it is worth is what the hold of that sum in a sandbox is worth. -/
noncomputable def Tryd.pinned : Pinned := { name := "ytjkapmghifglcaadoor", sum := "0fa0b7a7fe89771ae3f957229ffc5c5ce9583ca156ada81237a20d317438d968", checked := Tryd.checked }
namespace Rows
def none {H : Type} : Left H := { results := [], args := [] }

/- WHAT THE LISTED PACKAGE-LEVEL VARIABLES READ AS WHEN THE CALL BEGINS. Each datum BY PROGRAM (the guide's laid-datum.mjs) off the statement by which the dump's own 'gosem.cut.vars' lays the variable. In a bare row this is a premise. The card (YtjkapmghifglcaaDoorCards.lean) ties it to the program's text. -/
def laid_unicode_utf8_acceptRanges {H : Type} : DataW H := .agg [.agg [.lit (.int .u8 128), .lit (.int .u8 191)], .agg [.lit (.int .u8 160), .lit (.int .u8 191)], .agg [.lit (.int .u8 128), .lit (.int .u8 159)], .agg [.lit (.int .u8 144), .lit (.int .u8 191)], .agg [.lit (.int .u8 128), .lit (.int .u8 143)], .agg [.lit (.int .u8 0), .lit (.int .u8 0)], .agg [.lit (.int .u8 0), .lit (.int .u8 0)], .agg [.lit (.int .u8 0), .lit (.int .u8 0)], .agg [.lit (.int .u8 0), .lit (.int .u8 0)], .agg [.lit (.int .u8 0), .lit (.int .u8 0)], .agg [.lit (.int .u8 0), .lit (.int .u8 0)], .agg [.lit (.int .u8 0), .lit (.int .u8 0)], .agg [.lit (.int .u8 0), .lit (.int .u8 0)], .agg [.lit (.int .u8 0), .lit (.int .u8 0)], .agg [.lit (.int .u8 0), .lit (.int .u8 0)], .agg [.lit (.int .u8 0), .lit (.int .u8 0)]]
/-- One of Go's own tables, pinned by name: the form's constant. -/
def laid_unicode_utf8_first : DataW Unit := Go.Pinned.utf8First
def laid_cambium_hash_firstState {H : Type} : DataW H := .agg [.lit (.int .u32 1779033703), .lit (.int .u32 3144134277), .lit (.int .u32 1013904242), .lit (.int .u32 2773480762), .lit (.int .u32 1359893119), .lit (.int .u32 2600822924), .lit (.int .u32 528734635), .lit (.int .u32 1541459225)]
def laid_cambium_hash_roundWords {H : Type} : DataW H := .agg [.lit (.int .u32 1116352408), .lit (.int .u32 1899447441), .lit (.int .u32 3049323471), .lit (.int .u32 3921009573), .lit (.int .u32 961987163), .lit (.int .u32 1508970993), .lit (.int .u32 2453635748), .lit (.int .u32 2870763221), .lit (.int .u32 3624381080), .lit (.int .u32 310598401), .lit (.int .u32 607225278), .lit (.int .u32 1426881987), .lit (.int .u32 1925078388), .lit (.int .u32 2162078206), .lit (.int .u32 2614888103), .lit (.int .u32 3248222580), .lit (.int .u32 3835390401), .lit (.int .u32 4022224774), .lit (.int .u32 264347078), .lit (.int .u32 604807628), .lit (.int .u32 770255983), .lit (.int .u32 1249150122), .lit (.int .u32 1555081692), .lit (.int .u32 1996064986), .lit (.int .u32 2554220882), .lit (.int .u32 2821834349), .lit (.int .u32 2952996808), .lit (.int .u32 3210313671), .lit (.int .u32 3336571891), .lit (.int .u32 3584528711), .lit (.int .u32 113926993), .lit (.int .u32 338241895), .lit (.int .u32 666307205), .lit (.int .u32 773529912), .lit (.int .u32 1294757372), .lit (.int .u32 1396182291), .lit (.int .u32 1695183700), .lit (.int .u32 1986661051), .lit (.int .u32 2177026350), .lit (.int .u32 2456956037), .lit (.int .u32 2730485921), .lit (.int .u32 2820302411), .lit (.int .u32 3259730800), .lit (.int .u32 3345764771), .lit (.int .u32 3516065817), .lit (.int .u32 3600352804), .lit (.int .u32 4094571909), .lit (.int .u32 275423344), .lit (.int .u32 430227734), .lit (.int .u32 506948616), .lit (.int .u32 659060556), .lit (.int .u32 883997877), .lit (.int .u32 958139571), .lit (.int .u32 1322822218), .lit (.int .u32 1537002063), .lit (.int .u32 1747873779), .lit (.int .u32 1955562222), .lit (.int .u32 2024104815), .lit (.int .u32 2227730452), .lit (.int .u32 2361852424), .lit (.int .u32 2428436474), .lit (.int .u32 2756734187), .lit (.int .u32 3204031479), .lit (.int .u32 3329325298)]

/-- 'cambiumlaw03.DevWrites': WHATEVER THE INPUT: true; the input reads as it did. -/
def devWritesSpec : ChangeSpec := { name := "devWrites", fn := fun _ => fun
  | [d1, d2, d3] => { results := [.lit (.bool true)], args := [d1, d2, d3] }
  | _ => none }
def devWritesRow : OpenClaim := { program := "ytjkapmghifglcaadoor", sum := "0fa0b7a7fe89771ae3f957229ffc5c5ce9583ca156ada81237a20d317438d968", func := "cambium/cambiumlaw03.DevWrites", spec := "devWrites", inPlace := ["internal/bytealg.IndexByteString", "internal/bytealg.IndexString"], unfollowed := true, recurses := true, named := ["unicode/utf8.first", "unicode/utf8.acceptRanges", "internal/bytealg.MaxLen"], apart := false, laid := [("unicode/utf8.acceptRanges", laid_unicode_utf8_acceptRanges), ("unicode/utf8.first", laid_unicode_utf8_first)] }
def DevWritesSaid : Prop := devWritesRow.holds Tryd.pinned (OpenSpec.ofChange devWritesSpec)

/-- ITS FALSE NEIGHBOUR: 'it returns false'. Refute it at one input. -/
def devWritesWrong : ChangeSpec := { name := "devWrites", fn := fun _ => fun
  | [d1, d2, d3] => { results := [.lit (.bool false)], args := [d1, d2, d3] }
  | _ => none }
def DevWritesWrongFalsely : Prop := devWritesRow.holds Tryd.pinned (OpenSpec.ofChange devWritesWrong)

/-- 'cambiumlaw03.DevCrashes': WHATEVER THE INPUT: true; the input reads as it did. -/
def devCrashesSpec : ChangeSpec := { name := "devCrashes", fn := fun _ => fun
  | [d1, d2, d3, d4] => { results := [.lit (.bool true)], args := [d1, d2, d3, d4] }
  | _ => none }
def devCrashesRow : OpenClaim := { program := "ytjkapmghifglcaadoor", sum := "0fa0b7a7fe89771ae3f957229ffc5c5ce9583ca156ada81237a20d317438d968", func := "cambium/cambiumlaw03.DevCrashes", spec := "devCrashes", inPlace := ["internal/bytealg.IndexByteString", "internal/bytealg.IndexString"], unfollowed := true, recurses := true, named := ["unicode/utf8.first", "unicode/utf8.acceptRanges", "internal/bytealg.MaxLen"], apart := false, laid := [("unicode/utf8.acceptRanges", laid_unicode_utf8_acceptRanges), ("unicode/utf8.first", laid_unicode_utf8_first)] }
def DevCrashesSaid : Prop := devCrashesRow.holds Tryd.pinned (OpenSpec.ofChange devCrashesSpec)

/-- ITS FALSE NEIGHBOUR: 'it returns false'. Refute it at one input. -/
def devCrashesWrong : ChangeSpec := { name := "devCrashes", fn := fun _ => fun
  | [d1, d2, d3, d4] => { results := [.lit (.bool false)], args := [d1, d2, d3, d4] }
  | _ => none }
def DevCrashesWrongFalsely : Prop := devCrashesRow.holds Tryd.pinned (OpenSpec.ofChange devCrashesWrong)

/-- 'cambiumlaw03.DevSafe': WHATEVER THE INPUT: true; the input reads as it did. -/
def devSafeSpec : ChangeSpec := { name := "devSafe", fn := fun _ => fun
  | [d1, d2, d3, d4] => { results := [.lit (.bool true)], args := [d1, d2, d3, d4] }
  | _ => none }
def devSafeRow : OpenClaim := { program := "ytjkapmghifglcaadoor", sum := "0fa0b7a7fe89771ae3f957229ffc5c5ce9583ca156ada81237a20d317438d968", func := "cambium/cambiumlaw03.DevSafe", spec := "devSafe", inPlace := ["internal/bytealg.IndexByteString", "internal/bytealg.IndexString"], unfollowed := true, recurses := true, named := ["unicode/utf8.first", "unicode/utf8.acceptRanges", "internal/bytealg.MaxLen"], apart := false, laid := [("unicode/utf8.acceptRanges", laid_unicode_utf8_acceptRanges), ("unicode/utf8.first", laid_unicode_utf8_first)] }
def DevSafeSaid : Prop := devSafeRow.holds Tryd.pinned (OpenSpec.ofChange devSafeSpec)

/-- ITS FALSE NEIGHBOUR: 'it returns false'. Refute it at one input. -/
def devSafeWrong : ChangeSpec := { name := "devSafe", fn := fun _ => fun
  | [d1, d2, d3, d4] => { results := [.lit (.bool false)], args := [d1, d2, d3, d4] }
  | _ => none }
def DevSafeWrongFalsely : Prop := devSafeRow.holds Tryd.pinned (OpenSpec.ofChange devSafeWrong)

/-- 'cambiumlaw03.DevWhole': WHATEVER THE INPUT: true; the input reads as it did. -/
def devWholeSpec : ChangeSpec := { name := "devWhole", fn := fun _ => fun
  | [d1, d2, d3] => { results := [.lit (.bool true)], args := [d1, d2, d3] }
  | _ => none }
def devWholeRow : OpenClaim := { program := "ytjkapmghifglcaadoor", sum := "0fa0b7a7fe89771ae3f957229ffc5c5ce9583ca156ada81237a20d317438d968", func := "cambium/cambiumlaw03.DevWhole", spec := "devWhole", inPlace := ["internal/bytealg.IndexByteString", "internal/bytealg.IndexString"], unfollowed := true, recurses := true, named := ["unicode/utf8.first", "unicode/utf8.acceptRanges", "internal/bytealg.MaxLen"], apart := false, laid := [("unicode/utf8.acceptRanges", laid_unicode_utf8_acceptRanges), ("unicode/utf8.first", laid_unicode_utf8_first)] }
def DevWholeSaid : Prop := devWholeRow.holds Tryd.pinned (OpenSpec.ofChange devWholeSpec)

/-- ITS FALSE NEIGHBOUR: 'it returns false'. Refute it at one input. -/
def devWholeWrong : ChangeSpec := { name := "devWhole", fn := fun _ => fun
  | [d1, d2, d3] => { results := [.lit (.bool false)], args := [d1, d2, d3] }
  | _ => none }
def DevWholeWrongFalsely : Prop := devWholeRow.holds Tryd.pinned (OpenSpec.ofChange devWholeWrong)

/-- 'cambiumlaw03.DevLast': WHATEVER THE INPUT: true; the input reads as it did. -/
def devLastSpec : ChangeSpec := { name := "devLast", fn := fun _ => fun
  | [d1, d2, d3, d4] => { results := [.lit (.bool true)], args := [d1, d2, d3, d4] }
  | _ => none }
def devLastRow : OpenClaim := { program := "ytjkapmghifglcaadoor", sum := "0fa0b7a7fe89771ae3f957229ffc5c5ce9583ca156ada81237a20d317438d968", func := "cambium/cambiumlaw03.DevLast", spec := "devLast", inPlace := ["internal/bytealg.IndexByteString", "internal/bytealg.IndexString"], unfollowed := true, recurses := true, named := ["unicode/utf8.first", "unicode/utf8.acceptRanges", "internal/bytealg.MaxLen"], apart := false, laid := [("unicode/utf8.acceptRanges", laid_unicode_utf8_acceptRanges), ("unicode/utf8.first", laid_unicode_utf8_first)] }
def DevLastSaid : Prop := devLastRow.holds Tryd.pinned (OpenSpec.ofChange devLastSpec)

/-- ITS FALSE NEIGHBOUR: 'it returns false'. Refute it at one input. -/
def devLastWrong : ChangeSpec := { name := "devLast", fn := fun _ => fun
  | [d1, d2, d3, d4] => { results := [.lit (.bool false)], args := [d1, d2, d3, d4] }
  | _ => none }
def DevLastWrongFalsely : Prop := devLastRow.holds Tryd.pinned (OpenSpec.ofChange devLastWrong)

/-- 'cambiumlaw03.DevAgain': WHATEVER THE INPUT: true; the input reads as it did. -/
def devAgainSpec : ChangeSpec := { name := "devAgain", fn := fun _ => fun
  | [d1, d2] => { results := [.lit (.bool true)], args := [d1, d2] }
  | _ => none }
def devAgainRow : OpenClaim := { program := "ytjkapmghifglcaadoor", sum := "0fa0b7a7fe89771ae3f957229ffc5c5ce9583ca156ada81237a20d317438d968", func := "cambium/cambiumlaw03.DevAgain", spec := "devAgain", inPlace := ["internal/bytealg.IndexByteString", "internal/bytealg.IndexString"], unfollowed := true, recurses := true, named := ["unicode/utf8.first", "unicode/utf8.acceptRanges", "internal/bytealg.MaxLen"], apart := false, laid := [("unicode/utf8.acceptRanges", laid_unicode_utf8_acceptRanges), ("unicode/utf8.first", laid_unicode_utf8_first)] }
def DevAgainSaid : Prop := devAgainRow.holds Tryd.pinned (OpenSpec.ofChange devAgainSpec)

/-- ITS FALSE NEIGHBOUR: 'it returns false'. Refute it at one input. -/
def devAgainWrong : ChangeSpec := { name := "devAgain", fn := fun _ => fun
  | [d1, d2] => { results := [.lit (.bool false)], args := [d1, d2] }
  | _ => none }
def DevAgainWrongFalsely : Prop := devAgainRow.holds Tryd.pinned (OpenSpec.ofChange devAgainWrong)

/-- 'cambiumlaw03.DevRight': WHATEVER THE INPUT: true; the input reads as it did. -/
def devRightSpec : ChangeSpec := { name := "devRight", fn := fun _ => fun
  | [d1, d2, d3] => { results := [.lit (.bool true)], args := [d1, d2, d3] }
  | _ => none }
def devRightRow : OpenClaim := { program := "ytjkapmghifglcaadoor", sum := "0fa0b7a7fe89771ae3f957229ffc5c5ce9583ca156ada81237a20d317438d968", func := "cambium/cambiumlaw03.DevRight", spec := "devRight", inPlace := ["internal/bytealg.IndexByteString", "internal/bytealg.IndexString"], unfollowed := true, recurses := true, named := ["unicode/utf8.first", "unicode/utf8.acceptRanges", "internal/bytealg.MaxLen"], apart := false, laid := [("unicode/utf8.acceptRanges", laid_unicode_utf8_acceptRanges), ("unicode/utf8.first", laid_unicode_utf8_first)] }
def DevRightSaid : Prop := devRightRow.holds Tryd.pinned (OpenSpec.ofChange devRightSpec)

/-- ITS FALSE NEIGHBOUR: 'it returns false'. Refute it at one input. -/
def devRightWrong : ChangeSpec := { name := "devRight", fn := fun _ => fun
  | [d1, d2, d3] => { results := [.lit (.bool false)], args := [d1, d2, d3] }
  | _ => none }
def DevRightWrongFalsely : Prop := devRightRow.holds Tryd.pinned (OpenSpec.ofChange devRightWrong)

/-- 'cambiumlaw03.DevSpoilt': WHATEVER THE INPUT: true; the input reads as it did. -/
def devSpoiltSpec : ChangeSpec := { name := "devSpoilt", fn := fun _ => fun
  | [d1, d2, d3, d4] => { results := [.lit (.bool true)], args := [d1, d2, d3, d4] }
  | _ => none }
def devSpoiltRow : OpenClaim := { program := "ytjkapmghifglcaadoor", sum := "0fa0b7a7fe89771ae3f957229ffc5c5ce9583ca156ada81237a20d317438d968", func := "cambium/cambiumlaw03.DevSpoilt", spec := "devSpoilt", inPlace := ["internal/bytealg.IndexByteString", "internal/bytealg.IndexString"], unfollowed := true, recurses := true, named := ["unicode/utf8.first", "unicode/utf8.acceptRanges", "internal/bytealg.MaxLen"], apart := false, laid := [("unicode/utf8.acceptRanges", laid_unicode_utf8_acceptRanges), ("unicode/utf8.first", laid_unicode_utf8_first)] }
def DevSpoiltSaid : Prop := devSpoiltRow.holds Tryd.pinned (OpenSpec.ofChange devSpoiltSpec)

/-- ITS FALSE NEIGHBOUR: 'it returns false'. Refute it at one input. -/
def devSpoiltWrong : ChangeSpec := { name := "devSpoilt", fn := fun _ => fun
  | [d1, d2, d3, d4] => { results := [.lit (.bool false)], args := [d1, d2, d3, d4] }
  | _ => none }
def DevSpoiltWrongFalsely : Prop := devSpoiltRow.holds Tryd.pinned (OpenSpec.ofChange devSpoiltWrong)

/-- 'cambiumlaw03.DevKept': WHATEVER THE INPUT: true; the input reads as it did. -/
def devKeptSpec : ChangeSpec := { name := "devKept", fn := fun _ => fun
  | [d] => { results := [.lit (.bool true)], args := [d] }
  | _ => none }
def devKeptRow : OpenClaim := { program := "ytjkapmghifglcaadoor", sum := "0fa0b7a7fe89771ae3f957229ffc5c5ce9583ca156ada81237a20d317438d968", func := "cambium/cambiumlaw03.DevKept", spec := "devKept", inPlace := ["internal/bytealg.IndexByteString", "internal/bytealg.IndexString"], unfollowed := true, recurses := true, named := ["unicode/utf8.first", "unicode/utf8.acceptRanges", "internal/bytealg.MaxLen"], apart := false, laid := [("unicode/utf8.acceptRanges", laid_unicode_utf8_acceptRanges), ("unicode/utf8.first", laid_unicode_utf8_first)] }
def DevKeptSaid : Prop := devKeptRow.holds Tryd.pinned (OpenSpec.ofChange devKeptSpec)

/-- ITS FALSE NEIGHBOUR: 'it returns false'. Refute it at one input. -/
def devKeptWrong : ChangeSpec := { name := "devKept", fn := fun _ => fun
  | [d] => { results := [.lit (.bool false)], args := [d] }
  | _ => none }
def DevKeptWrongFalsely : Prop := devKeptRow.holds Tryd.pinned (OpenSpec.ofChange devKeptWrong)

/-- 'cambiumtop.TopWritten': WHATEVER THE INPUT: true; the input reads as it did. -/
def topWrittenSpec : ChangeSpec := { name := "topWritten", fn := fun _ => fun
  | [d1, d2, d3] => { results := [.lit (.bool true)], args := [d1, d2, d3] }
  | _ => none }
def topWrittenRow : OpenClaim := { program := "ytjkapmghifglcaadoor", sum := "0fa0b7a7fe89771ae3f957229ffc5c5ce9583ca156ada81237a20d317438d968", func := "cambium/cambiumtop.TopWritten", spec := "topWritten", inPlace := ["sync/atomic.AddInt64", "sync/atomic.LoadInt64", "internal/bytealg.IndexByteString", "internal/bytealg.IndexString", "internal/bytealg.abigen_runtime_cmpstring"], unfollowed := true, recurses := true, named := ["cambium/hash.firstState", "cambium/hash.roundWords", "unicode/utf8.first", "unicode/utf8.acceptRanges", "internal/bytealg.MaxLen"], apart := false, laid := [("unicode/utf8.acceptRanges", laid_unicode_utf8_acceptRanges), ("cambium/hash.firstState", laid_cambium_hash_firstState), ("cambium/hash.roundWords", laid_cambium_hash_roundWords), ("unicode/utf8.first", laid_unicode_utf8_first)] }
def TopWrittenSaid : Prop := topWrittenRow.holds Tryd.pinned (OpenSpec.ofChange topWrittenSpec)

/-- ITS FALSE NEIGHBOUR: 'it returns false'. Refute it at one input. -/
def topWrittenWrong : ChangeSpec := { name := "topWritten", fn := fun _ => fun
  | [d1, d2, d3] => { results := [.lit (.bool false)], args := [d1, d2, d3] }
  | _ => none }
def TopWrittenWrongFalsely : Prop := topWrittenRow.holds Tryd.pinned (OpenSpec.ofChange topWrittenWrong)

/- THE SECOND FORM. 'bulk': how many values and letters a reading holds, each counted each time it is reached (what is shared counts as often as it is met; a slice's spare places count too). A statement '..UptoSaid' is the law's where the arguments, and the package variables that the reading takes, are together of bulk at most 1048576: NARROWER than '..Said'. Prove '..Said' where nothing that the law and all that it calls make is longer than what came in: it says more and counts as full. Else prove '..UptoSaid'. A law counts once. -/
mutual
def uptoBulk {H : Type} : DataW H → Nat
  | .lit (.string bytes) => bytes.length + 1
  | .lit _ => 1
  | .nil => 1
  | .ptr d => uptoBulk d + 1
  | .slice elems spare => uptoBulkAll elems + uptoBulkAll spare + 1
  | .agg parts => uptoBulkAll parts + 1
  | .iface _ d => uptoBulk d + 1
  | .map entries => uptoBulkEntries entries + 1
  | .held _ => 1
def uptoBulkAll {H : Type} : List (DataW H) → Nat
  | [] => 0
  | d :: r => uptoBulk d + uptoBulkAll r
def uptoBulkEntries {H : Type} : List (Lit × DataW H) → Nat
  | [] => 0
  | x :: r => uptoBulkEntry x + uptoBulkEntries r
def uptoBulkEntry {H : Type} : Lit × DataW H → Nat
  | (.string bytes, d) => bytes.length + uptoBulk d + 1
  | (_, d) => uptoBulk d + 1
 end
def uptoSmall : (H : Type) → List (DataW H) → Bool := fun _ ds => decide (uptoBulkAll ds ≤ 1048576)
def OpenSpec.upto (s : _root_.Go.ChangeSpec) : _root_.Go.OpenSpec := { _root_.Go.OpenSpec.ofChange s with cond := some uptoSmall }

/-- 'cambiumlaw03.DevWrites', WHERE WHAT IT READS IS OF BULK AT MOST 1048576: true; the input reads as it did. -/
def devWritesUptoRow : OpenClaim := { program := "ytjkapmghifglcaadoor", sum := "0fa0b7a7fe89771ae3f957229ffc5c5ce9583ca156ada81237a20d317438d968", func := "cambium/cambiumlaw03.DevWrites", spec := "devWrites", inPlace := ["internal/bytealg.IndexByteString", "internal/bytealg.IndexString"], unfollowed := true, recurses := true, named := ["unicode/utf8.first", "unicode/utf8.acceptRanges", "internal/bytealg.MaxLen"], apart := false, laid := [("unicode/utf8.acceptRanges", laid_unicode_utf8_acceptRanges), ("unicode/utf8.first", laid_unicode_utf8_first)], narrowed := true }
def DevWritesUptoSaid : Prop := devWritesUptoRow.holds Tryd.pinned (OpenSpec.upto devWritesSpec)

/-- 'cambiumlaw03.DevCrashes', WHERE WHAT IT READS IS OF BULK AT MOST 1048576: true; the input reads as it did. -/
def devCrashesUptoRow : OpenClaim := { program := "ytjkapmghifglcaadoor", sum := "0fa0b7a7fe89771ae3f957229ffc5c5ce9583ca156ada81237a20d317438d968", func := "cambium/cambiumlaw03.DevCrashes", spec := "devCrashes", inPlace := ["internal/bytealg.IndexByteString", "internal/bytealg.IndexString"], unfollowed := true, recurses := true, named := ["unicode/utf8.first", "unicode/utf8.acceptRanges", "internal/bytealg.MaxLen"], apart := false, laid := [("unicode/utf8.acceptRanges", laid_unicode_utf8_acceptRanges), ("unicode/utf8.first", laid_unicode_utf8_first)], narrowed := true }
def DevCrashesUptoSaid : Prop := devCrashesUptoRow.holds Tryd.pinned (OpenSpec.upto devCrashesSpec)

/-- 'cambiumlaw03.DevSafe', WHERE WHAT IT READS IS OF BULK AT MOST 1048576: true; the input reads as it did. -/
def devSafeUptoRow : OpenClaim := { program := "ytjkapmghifglcaadoor", sum := "0fa0b7a7fe89771ae3f957229ffc5c5ce9583ca156ada81237a20d317438d968", func := "cambium/cambiumlaw03.DevSafe", spec := "devSafe", inPlace := ["internal/bytealg.IndexByteString", "internal/bytealg.IndexString"], unfollowed := true, recurses := true, named := ["unicode/utf8.first", "unicode/utf8.acceptRanges", "internal/bytealg.MaxLen"], apart := false, laid := [("unicode/utf8.acceptRanges", laid_unicode_utf8_acceptRanges), ("unicode/utf8.first", laid_unicode_utf8_first)], narrowed := true }
def DevSafeUptoSaid : Prop := devSafeUptoRow.holds Tryd.pinned (OpenSpec.upto devSafeSpec)

/-- 'cambiumlaw03.DevWhole', WHERE WHAT IT READS IS OF BULK AT MOST 1048576: true; the input reads as it did. -/
def devWholeUptoRow : OpenClaim := { program := "ytjkapmghifglcaadoor", sum := "0fa0b7a7fe89771ae3f957229ffc5c5ce9583ca156ada81237a20d317438d968", func := "cambium/cambiumlaw03.DevWhole", spec := "devWhole", inPlace := ["internal/bytealg.IndexByteString", "internal/bytealg.IndexString"], unfollowed := true, recurses := true, named := ["unicode/utf8.first", "unicode/utf8.acceptRanges", "internal/bytealg.MaxLen"], apart := false, laid := [("unicode/utf8.acceptRanges", laid_unicode_utf8_acceptRanges), ("unicode/utf8.first", laid_unicode_utf8_first)], narrowed := true }
def DevWholeUptoSaid : Prop := devWholeUptoRow.holds Tryd.pinned (OpenSpec.upto devWholeSpec)

/-- 'cambiumlaw03.DevLast', WHERE WHAT IT READS IS OF BULK AT MOST 1048576: true; the input reads as it did. -/
def devLastUptoRow : OpenClaim := { program := "ytjkapmghifglcaadoor", sum := "0fa0b7a7fe89771ae3f957229ffc5c5ce9583ca156ada81237a20d317438d968", func := "cambium/cambiumlaw03.DevLast", spec := "devLast", inPlace := ["internal/bytealg.IndexByteString", "internal/bytealg.IndexString"], unfollowed := true, recurses := true, named := ["unicode/utf8.first", "unicode/utf8.acceptRanges", "internal/bytealg.MaxLen"], apart := false, laid := [("unicode/utf8.acceptRanges", laid_unicode_utf8_acceptRanges), ("unicode/utf8.first", laid_unicode_utf8_first)], narrowed := true }
def DevLastUptoSaid : Prop := devLastUptoRow.holds Tryd.pinned (OpenSpec.upto devLastSpec)

/-- 'cambiumlaw03.DevAgain', WHERE WHAT IT READS IS OF BULK AT MOST 1048576: true; the input reads as it did. -/
def devAgainUptoRow : OpenClaim := { program := "ytjkapmghifglcaadoor", sum := "0fa0b7a7fe89771ae3f957229ffc5c5ce9583ca156ada81237a20d317438d968", func := "cambium/cambiumlaw03.DevAgain", spec := "devAgain", inPlace := ["internal/bytealg.IndexByteString", "internal/bytealg.IndexString"], unfollowed := true, recurses := true, named := ["unicode/utf8.first", "unicode/utf8.acceptRanges", "internal/bytealg.MaxLen"], apart := false, laid := [("unicode/utf8.acceptRanges", laid_unicode_utf8_acceptRanges), ("unicode/utf8.first", laid_unicode_utf8_first)], narrowed := true }
def DevAgainUptoSaid : Prop := devAgainUptoRow.holds Tryd.pinned (OpenSpec.upto devAgainSpec)

/-- 'cambiumlaw03.DevRight', WHERE WHAT IT READS IS OF BULK AT MOST 1048576: true; the input reads as it did. -/
def devRightUptoRow : OpenClaim := { program := "ytjkapmghifglcaadoor", sum := "0fa0b7a7fe89771ae3f957229ffc5c5ce9583ca156ada81237a20d317438d968", func := "cambium/cambiumlaw03.DevRight", spec := "devRight", inPlace := ["internal/bytealg.IndexByteString", "internal/bytealg.IndexString"], unfollowed := true, recurses := true, named := ["unicode/utf8.first", "unicode/utf8.acceptRanges", "internal/bytealg.MaxLen"], apart := false, laid := [("unicode/utf8.acceptRanges", laid_unicode_utf8_acceptRanges), ("unicode/utf8.first", laid_unicode_utf8_first)], narrowed := true }
def DevRightUptoSaid : Prop := devRightUptoRow.holds Tryd.pinned (OpenSpec.upto devRightSpec)

/-- 'cambiumlaw03.DevSpoilt', WHERE WHAT IT READS IS OF BULK AT MOST 1048576: true; the input reads as it did. -/
def devSpoiltUptoRow : OpenClaim := { program := "ytjkapmghifglcaadoor", sum := "0fa0b7a7fe89771ae3f957229ffc5c5ce9583ca156ada81237a20d317438d968", func := "cambium/cambiumlaw03.DevSpoilt", spec := "devSpoilt", inPlace := ["internal/bytealg.IndexByteString", "internal/bytealg.IndexString"], unfollowed := true, recurses := true, named := ["unicode/utf8.first", "unicode/utf8.acceptRanges", "internal/bytealg.MaxLen"], apart := false, laid := [("unicode/utf8.acceptRanges", laid_unicode_utf8_acceptRanges), ("unicode/utf8.first", laid_unicode_utf8_first)], narrowed := true }
def DevSpoiltUptoSaid : Prop := devSpoiltUptoRow.holds Tryd.pinned (OpenSpec.upto devSpoiltSpec)

/-- 'cambiumlaw03.DevKept', WHERE WHAT IT READS IS OF BULK AT MOST 1048576: true; the input reads as it did. -/
def devKeptUptoRow : OpenClaim := { program := "ytjkapmghifglcaadoor", sum := "0fa0b7a7fe89771ae3f957229ffc5c5ce9583ca156ada81237a20d317438d968", func := "cambium/cambiumlaw03.DevKept", spec := "devKept", inPlace := ["internal/bytealg.IndexByteString", "internal/bytealg.IndexString"], unfollowed := true, recurses := true, named := ["unicode/utf8.first", "unicode/utf8.acceptRanges", "internal/bytealg.MaxLen"], apart := false, laid := [("unicode/utf8.acceptRanges", laid_unicode_utf8_acceptRanges), ("unicode/utf8.first", laid_unicode_utf8_first)], narrowed := true }
def DevKeptUptoSaid : Prop := devKeptUptoRow.holds Tryd.pinned (OpenSpec.upto devKeptSpec)

/-- 'cambiumtop.TopWritten', WHERE WHAT IT READS IS OF BULK AT MOST 1048576: true; the input reads as it did. -/
def topWrittenUptoRow : OpenClaim := { program := "ytjkapmghifglcaadoor", sum := "0fa0b7a7fe89771ae3f957229ffc5c5ce9583ca156ada81237a20d317438d968", func := "cambium/cambiumtop.TopWritten", spec := "topWritten", inPlace := ["sync/atomic.AddInt64", "sync/atomic.LoadInt64", "internal/bytealg.IndexByteString", "internal/bytealg.IndexString", "internal/bytealg.abigen_runtime_cmpstring"], unfollowed := true, recurses := true, named := ["cambium/hash.firstState", "cambium/hash.roundWords", "unicode/utf8.first", "unicode/utf8.acceptRanges", "internal/bytealg.MaxLen"], apart := false, laid := [("unicode/utf8.acceptRanges", laid_unicode_utf8_acceptRanges), ("cambium/hash.firstState", laid_cambium_hash_firstState), ("cambium/hash.roundWords", laid_cambium_hash_roundWords), ("unicode/utf8.first", laid_unicode_utf8_first)], narrowed := true }
def TopWrittenUptoSaid : Prop := topWrittenUptoRow.holds Tryd.pinned (OpenSpec.upto topWrittenSpec)

end Rows
end Go.Proofs.YtjkapmghifglcaaDoor
