/-
  NARROWER THAN 'FOR EVERY INPUT', by the rows' own cells (each row's printed sentence says how): TopSized: laid · StreamDoes: laid · StreamBack: laid · StreamTurned: laid · StreamRight: laid · StreamOther: laid · StreamChains: laid · StreamCut: laid.
  DERIVED. THE GIVEN ROWS OF THIS SEAT. 8 by the template 'for every input the law returns true; each argument reads behind the call as it read before'; 0 by the template 'total and deterministic' (their statements: YtjkmfonngbendaaGreatDoorTotals.lean).
  GIVEN WITH THE SEED: the statements are not yours to turn. If you find one false, say at which input.
  Laid BY PROGRAM, IN A SANDBOX (cutbox-rows.mjs): the forced cells as the released guide's own fill.sh prints them over the translation 7d19b2b1235f9518… (all of the seat's roots in one cut). By AI agents, Wed Nov 11 2026. No macro, syntax, notation, axiom, sorry.
-/
import Derived.Test.YtjkmfonngbendaaGreatDoorChecked
import GoSem.PinnedTables
import GoSem.Claim
import GoSem.ClaimJoined
import GoSem.ClaimMapViews
import Derived.JoinedTies
import Derived.KernelRfl
namespace Go.Proofs.YtjkmfonngbendaaGreatDoor
/- THE CELL 'sum', in the pinned program and in every row, IS THE sha256 OF THE DUMP (.gsa) THAT YtjkmfonngbendaaGreatDoorProg.lean LOADS. Nothing in Lean hashes anything: it is a label: what it is worth is what the hold of that sum in a sandbox is worth. -/
noncomputable def Tryz.pinned : Pinned := { name := "ytjkmfonngbendaagreatdoor", sum := "7d19b2b1235f95182fdfc410028fdc78e4841caf07b10145c26c82f5578c1868", checked := Tryz.checked }
namespace Rows
def none {H : Type} : Left H := { results := [], args := [] }

/- WHAT THE LISTED PACKAGE-LEVEL VARIABLES READ AS WHEN THE CALL BEGINS. Each datum BY PROGRAM (the guide's laid-datum.mjs) off the statement by which the dump's own 'gosem.cut.vars' lays the variable. In a bare row this is a premise. The card (YtjkmfonngbendaaGreatDoorCards.lean) ties it to the program's text. -/
def laid_unicode_utf8_acceptRanges {H : Type} : DataW H := .agg [.agg [.lit (.int .u8 128), .lit (.int .u8 191)], .agg [.lit (.int .u8 160), .lit (.int .u8 191)], .agg [.lit (.int .u8 128), .lit (.int .u8 159)], .agg [.lit (.int .u8 144), .lit (.int .u8 191)], .agg [.lit (.int .u8 128), .lit (.int .u8 143)], .agg [.lit (.int .u8 0), .lit (.int .u8 0)], .agg [.lit (.int .u8 0), .lit (.int .u8 0)], .agg [.lit (.int .u8 0), .lit (.int .u8 0)], .agg [.lit (.int .u8 0), .lit (.int .u8 0)], .agg [.lit (.int .u8 0), .lit (.int .u8 0)], .agg [.lit (.int .u8 0), .lit (.int .u8 0)], .agg [.lit (.int .u8 0), .lit (.int .u8 0)], .agg [.lit (.int .u8 0), .lit (.int .u8 0)], .agg [.lit (.int .u8 0), .lit (.int .u8 0)], .agg [.lit (.int .u8 0), .lit (.int .u8 0)], .agg [.lit (.int .u8 0), .lit (.int .u8 0)]]
def laid_cambium_hash_firstState {H : Type} : DataW H := .agg [.lit (.int .u32 1779033703), .lit (.int .u32 3144134277), .lit (.int .u32 1013904242), .lit (.int .u32 2773480762), .lit (.int .u32 1359893119), .lit (.int .u32 2600822924), .lit (.int .u32 528734635), .lit (.int .u32 1541459225)]
def laid_cambium_hash_roundWords {H : Type} : DataW H := .agg [.lit (.int .u32 1116352408), .lit (.int .u32 1899447441), .lit (.int .u32 3049323471), .lit (.int .u32 3921009573), .lit (.int .u32 961987163), .lit (.int .u32 1508970993), .lit (.int .u32 2453635748), .lit (.int .u32 2870763221), .lit (.int .u32 3624381080), .lit (.int .u32 310598401), .lit (.int .u32 607225278), .lit (.int .u32 1426881987), .lit (.int .u32 1925078388), .lit (.int .u32 2162078206), .lit (.int .u32 2614888103), .lit (.int .u32 3248222580), .lit (.int .u32 3835390401), .lit (.int .u32 4022224774), .lit (.int .u32 264347078), .lit (.int .u32 604807628), .lit (.int .u32 770255983), .lit (.int .u32 1249150122), .lit (.int .u32 1555081692), .lit (.int .u32 1996064986), .lit (.int .u32 2554220882), .lit (.int .u32 2821834349), .lit (.int .u32 2952996808), .lit (.int .u32 3210313671), .lit (.int .u32 3336571891), .lit (.int .u32 3584528711), .lit (.int .u32 113926993), .lit (.int .u32 338241895), .lit (.int .u32 666307205), .lit (.int .u32 773529912), .lit (.int .u32 1294757372), .lit (.int .u32 1396182291), .lit (.int .u32 1695183700), .lit (.int .u32 1986661051), .lit (.int .u32 2177026350), .lit (.int .u32 2456956037), .lit (.int .u32 2730485921), .lit (.int .u32 2820302411), .lit (.int .u32 3259730800), .lit (.int .u32 3345764771), .lit (.int .u32 3516065817), .lit (.int .u32 3600352804), .lit (.int .u32 4094571909), .lit (.int .u32 275423344), .lit (.int .u32 430227734), .lit (.int .u32 506948616), .lit (.int .u32 659060556), .lit (.int .u32 883997877), .lit (.int .u32 958139571), .lit (.int .u32 1322822218), .lit (.int .u32 1537002063), .lit (.int .u32 1747873779), .lit (.int .u32 1955562222), .lit (.int .u32 2024104815), .lit (.int .u32 2227730452), .lit (.int .u32 2361852424), .lit (.int .u32 2428436474), .lit (.int .u32 2756734187), .lit (.int .u32 3204031479), .lit (.int .u32 3329325298)]
/-- One of Go's own tables, pinned by name: the form's constant. -/
def laid_unicode_utf8_first : DataW Unit := Go.Pinned.utf8First

/-- 'cambiumtop.TopSized': WHATEVER THE INPUT: true; the input reads as it did. -/
def topSizedSpec : ChangeSpec := { name := "topSized", fn := fun _ => fun
  | [d1, d2, d3] => { results := [.lit (.bool true)], args := [d1, d2, d3] }
  | _ => none }
def topSizedRow : OpenClaim := { program := "ytjkmfonngbendaagreatdoor", sum := "7d19b2b1235f95182fdfc410028fdc78e4841caf07b10145c26c82f5578c1868", func := "cambium/cambiumtop.TopSized", spec := "topSized", inPlace := ["sync/atomic.AddInt64", "sync/atomic.LoadInt64", "sync/atomic.LoadUint32", "(*internal/sync.Mutex).Lock", "internal/race.Disable", "sync/atomic.CompareAndSwapInt32", "internal/race.Enable", "internal/race.Acquire", "(*internal/sync.Mutex).lockSlow", "internal/sync.runtime_canSpin", "internal/sync.runtime_doSpin", "internal/sync.throw", "internal/sync.runtime_nanotime", "internal/sync.runtime_SemacquireMutex", "sync/atomic.AddInt32", "(*internal/sync.Mutex).Unlock", "internal/race.ReleaseMerge", "(*internal/sync.Mutex).unlockSlow", "internal/sync.fatal", "internal/sync.runtime_Semrelease", "sync/atomic.StoreUint32", "internal/bytealg.abigen_runtime_cmpstring", "internal/bytealg.IndexByteString", "internal/bytealg.IndexString"], unfollowed := true, recurses := true, named := ["cambium/hash.firstState", "cambium/hash.roundWords", "internal/bytealg.MaxLen", "unicode/utf8.first", "unicode/utf8.acceptRanges"], plainKeys := false, apart := false, laid := [("unicode/utf8.acceptRanges", laid_unicode_utf8_acceptRanges), ("cambium/hash.firstState", laid_cambium_hash_firstState), ("cambium/hash.roundWords", laid_cambium_hash_roundWords), ("unicode/utf8.first", laid_unicode_utf8_first)] }
def TopSizedSaid : Prop := topSizedRow.holds Tryz.pinned (OpenSpec.ofChange topSizedSpec)

/-- ITS FALSE NEIGHBOUR: 'it returns false'. Refute it at one input. -/
def topSizedWrong : ChangeSpec := { name := "topSized", fn := fun _ => fun
  | [d1, d2, d3] => { results := [.lit (.bool false)], args := [d1, d2, d3] }
  | _ => none }
def TopSizedWrongFalsely : Prop := topSizedRow.holds Tryz.pinned (OpenSpec.ofChange topSizedWrong)

/-- 'cambiumlaw18.StreamDoes': WHATEVER THE INPUT: true; the input reads as it did. -/
def streamDoesSpec : ChangeSpec := { name := "streamDoes", fn := fun _ => fun
  | [d1, d2, d3] => { results := [.lit (.bool true)], args := [d1, d2, d3] }
  | _ => none }
def streamDoesRow : OpenClaim := { program := "ytjkmfonngbendaagreatdoor", sum := "7d19b2b1235f95182fdfc410028fdc78e4841caf07b10145c26c82f5578c1868", func := "cambium/cambiumlaw18.StreamDoes", spec := "streamDoes", inPlace := ["sync/atomic.LoadUint32", "(*internal/sync.Mutex).Lock", "internal/race.Disable", "sync/atomic.CompareAndSwapInt32", "internal/race.Enable", "internal/race.Acquire", "(*internal/sync.Mutex).lockSlow", "internal/sync.runtime_canSpin", "internal/sync.runtime_doSpin", "internal/sync.throw", "internal/sync.runtime_nanotime", "internal/sync.runtime_SemacquireMutex", "sync/atomic.AddInt32", "(*internal/sync.Mutex).Unlock", "internal/race.ReleaseMerge", "(*internal/sync.Mutex).unlockSlow", "internal/sync.fatal", "internal/sync.runtime_Semrelease", "sync/atomic.StoreUint32", "internal/bytealg.IndexByteString", "internal/bytealg.IndexString", "internal/abi.NoEscape", "sync/atomic.AddInt64", "sync/atomic.LoadInt64", "internal/bytealg.abigen_runtime_cmpstring"], unfollowed := true, recurses := true, named := ["internal/bytealg.MaxLen", "cambium/hash.firstState", "cambium/hash.roundWords"], plainKeys := false, apart := false, laid := [("cambium/hash.firstState", laid_cambium_hash_firstState), ("cambium/hash.roundWords", laid_cambium_hash_roundWords)] }
def StreamDoesSaid : Prop := streamDoesRow.holds Tryz.pinned (OpenSpec.ofChange streamDoesSpec)

/-- ITS FALSE NEIGHBOUR: 'it returns false'. Refute it at one input. -/
def streamDoesWrong : ChangeSpec := { name := "streamDoes", fn := fun _ => fun
  | [d1, d2, d3] => { results := [.lit (.bool false)], args := [d1, d2, d3] }
  | _ => none }
def StreamDoesWrongFalsely : Prop := streamDoesRow.holds Tryz.pinned (OpenSpec.ofChange streamDoesWrong)

/-- 'cambiumlaw18.StreamBack': WHATEVER THE INPUT: true; the input reads as it did. -/
def streamBackSpec : ChangeSpec := { name := "streamBack", fn := fun _ => fun
  | [d1, d2] => { results := [.lit (.bool true)], args := [d1, d2] }
  | _ => none }
def streamBackRow : OpenClaim := { program := "ytjkmfonngbendaagreatdoor", sum := "7d19b2b1235f95182fdfc410028fdc78e4841caf07b10145c26c82f5578c1868", func := "cambium/cambiumlaw18.StreamBack", spec := "streamBack", inPlace := ["internal/bytealg.IndexByteString", "internal/bytealg.IndexString", "sync/atomic.LoadUint32", "(*internal/sync.Mutex).Lock", "internal/race.Disable", "sync/atomic.CompareAndSwapInt32", "internal/race.Enable", "internal/race.Acquire", "(*internal/sync.Mutex).lockSlow", "internal/sync.runtime_canSpin", "internal/sync.runtime_doSpin", "internal/sync.throw", "internal/sync.runtime_nanotime", "internal/sync.runtime_SemacquireMutex", "sync/atomic.AddInt32", "(*internal/sync.Mutex).Unlock", "internal/race.ReleaseMerge", "(*internal/sync.Mutex).unlockSlow", "internal/sync.fatal", "internal/sync.runtime_Semrelease", "sync/atomic.StoreUint32", "internal/abi.NoEscape", "sync/atomic.AddInt64", "sync/atomic.LoadInt64", "internal/bytealg.abigen_runtime_cmpstring"], unfollowed := true, recurses := true, named := ["internal/bytealg.MaxLen", "cambium/hash.firstState", "cambium/hash.roundWords"], plainKeys := false, apart := false, laid := [("cambium/hash.firstState", laid_cambium_hash_firstState), ("cambium/hash.roundWords", laid_cambium_hash_roundWords)] }
def StreamBackSaid : Prop := streamBackRow.holds Tryz.pinned (OpenSpec.ofChange streamBackSpec)

/-- ITS FALSE NEIGHBOUR: 'it returns false'. Refute it at one input. -/
def streamBackWrong : ChangeSpec := { name := "streamBack", fn := fun _ => fun
  | [d1, d2] => { results := [.lit (.bool false)], args := [d1, d2] }
  | _ => none }
def StreamBackWrongFalsely : Prop := streamBackRow.holds Tryz.pinned (OpenSpec.ofChange streamBackWrong)

/-- 'cambiumlaw18.StreamTurned': WHATEVER THE INPUT: true; the input reads as it did. -/
def streamTurnedSpec : ChangeSpec := { name := "streamTurned", fn := fun _ => fun
  | [d1, d2, d3, d4] => { results := [.lit (.bool true)], args := [d1, d2, d3, d4] }
  | _ => none }
def streamTurnedRow : OpenClaim := { program := "ytjkmfonngbendaagreatdoor", sum := "7d19b2b1235f95182fdfc410028fdc78e4841caf07b10145c26c82f5578c1868", func := "cambium/cambiumlaw18.StreamTurned", spec := "streamTurned", inPlace := ["internal/bytealg.IndexByteString", "internal/bytealg.IndexString", "sync/atomic.LoadUint32", "(*internal/sync.Mutex).Lock", "internal/race.Disable", "sync/atomic.CompareAndSwapInt32", "internal/race.Enable", "internal/race.Acquire", "(*internal/sync.Mutex).lockSlow", "internal/sync.runtime_canSpin", "internal/sync.runtime_doSpin", "internal/sync.throw", "internal/sync.runtime_nanotime", "internal/sync.runtime_SemacquireMutex", "sync/atomic.AddInt32", "(*internal/sync.Mutex).Unlock", "internal/race.ReleaseMerge", "(*internal/sync.Mutex).unlockSlow", "internal/sync.fatal", "internal/sync.runtime_Semrelease", "sync/atomic.StoreUint32", "internal/abi.NoEscape", "sync/atomic.AddInt64", "sync/atomic.LoadInt64", "internal/bytealg.abigen_runtime_cmpstring"], unfollowed := true, recurses := true, named := ["internal/bytealg.MaxLen", "cambium/hash.firstState", "cambium/hash.roundWords"], plainKeys := false, apart := false, laid := [("cambium/hash.firstState", laid_cambium_hash_firstState), ("cambium/hash.roundWords", laid_cambium_hash_roundWords)] }
def StreamTurnedSaid : Prop := streamTurnedRow.holds Tryz.pinned (OpenSpec.ofChange streamTurnedSpec)

/-- ITS FALSE NEIGHBOUR: 'it returns false'. Refute it at one input. -/
def streamTurnedWrong : ChangeSpec := { name := "streamTurned", fn := fun _ => fun
  | [d1, d2, d3, d4] => { results := [.lit (.bool false)], args := [d1, d2, d3, d4] }
  | _ => none }
def StreamTurnedWrongFalsely : Prop := streamTurnedRow.holds Tryz.pinned (OpenSpec.ofChange streamTurnedWrong)

/-- 'cambiumlaw18.StreamRight': WHATEVER THE INPUT: true; the input reads as it did. -/
def streamRightSpec : ChangeSpec := { name := "streamRight", fn := fun _ => fun
  | [d1, d2] => { results := [.lit (.bool true)], args := [d1, d2] }
  | _ => none }
def streamRightRow : OpenClaim := { program := "ytjkmfonngbendaagreatdoor", sum := "7d19b2b1235f95182fdfc410028fdc78e4841caf07b10145c26c82f5578c1868", func := "cambium/cambiumlaw18.StreamRight", spec := "streamRight", inPlace := ["internal/bytealg.IndexByteString", "internal/bytealg.IndexString", "sync/atomic.LoadUint32", "(*internal/sync.Mutex).Lock", "internal/race.Disable", "sync/atomic.CompareAndSwapInt32", "internal/race.Enable", "internal/race.Acquire", "(*internal/sync.Mutex).lockSlow", "internal/sync.runtime_canSpin", "internal/sync.runtime_doSpin", "internal/sync.throw", "internal/sync.runtime_nanotime", "internal/sync.runtime_SemacquireMutex", "sync/atomic.AddInt32", "(*internal/sync.Mutex).Unlock", "internal/race.ReleaseMerge", "(*internal/sync.Mutex).unlockSlow", "internal/sync.fatal", "internal/sync.runtime_Semrelease", "sync/atomic.StoreUint32", "internal/abi.NoEscape", "sync/atomic.AddInt64", "sync/atomic.LoadInt64", "internal/bytealg.abigen_runtime_cmpstring"], unfollowed := true, recurses := true, named := ["internal/bytealg.MaxLen", "cambium/hash.firstState", "cambium/hash.roundWords"], plainKeys := false, apart := false, laid := [("cambium/hash.firstState", laid_cambium_hash_firstState), ("cambium/hash.roundWords", laid_cambium_hash_roundWords)] }
def StreamRightSaid : Prop := streamRightRow.holds Tryz.pinned (OpenSpec.ofChange streamRightSpec)

/-- ITS FALSE NEIGHBOUR: 'it returns false'. Refute it at one input. -/
def streamRightWrong : ChangeSpec := { name := "streamRight", fn := fun _ => fun
  | [d1, d2] => { results := [.lit (.bool false)], args := [d1, d2] }
  | _ => none }
def StreamRightWrongFalsely : Prop := streamRightRow.holds Tryz.pinned (OpenSpec.ofChange streamRightWrong)

/-- 'cambiumlaw18.StreamOther': WHATEVER THE INPUT: true; the input reads as it did. -/
def streamOtherSpec : ChangeSpec := { name := "streamOther", fn := fun _ => fun
  | [d1, d2, d3] => { results := [.lit (.bool true)], args := [d1, d2, d3] }
  | _ => none }
def streamOtherRow : OpenClaim := { program := "ytjkmfonngbendaagreatdoor", sum := "7d19b2b1235f95182fdfc410028fdc78e4841caf07b10145c26c82f5578c1868", func := "cambium/cambiumlaw18.StreamOther", spec := "streamOther", inPlace := ["internal/bytealg.IndexByteString", "internal/bytealg.IndexString", "sync/atomic.LoadUint32", "(*internal/sync.Mutex).Lock", "internal/race.Disable", "sync/atomic.CompareAndSwapInt32", "internal/race.Enable", "internal/race.Acquire", "(*internal/sync.Mutex).lockSlow", "internal/sync.runtime_canSpin", "internal/sync.runtime_doSpin", "internal/sync.throw", "internal/sync.runtime_nanotime", "internal/sync.runtime_SemacquireMutex", "sync/atomic.AddInt32", "(*internal/sync.Mutex).Unlock", "internal/race.ReleaseMerge", "(*internal/sync.Mutex).unlockSlow", "internal/sync.fatal", "internal/sync.runtime_Semrelease", "sync/atomic.StoreUint32", "internal/abi.NoEscape", "sync/atomic.AddInt64", "sync/atomic.LoadInt64", "internal/bytealg.abigen_runtime_cmpstring"], unfollowed := true, recurses := true, named := ["internal/bytealg.MaxLen", "cambium/hash.firstState", "cambium/hash.roundWords"], plainKeys := false, apart := false, laid := [("cambium/hash.firstState", laid_cambium_hash_firstState), ("cambium/hash.roundWords", laid_cambium_hash_roundWords)] }
def StreamOtherSaid : Prop := streamOtherRow.holds Tryz.pinned (OpenSpec.ofChange streamOtherSpec)

/-- ITS FALSE NEIGHBOUR: 'it returns false'. Refute it at one input. -/
def streamOtherWrong : ChangeSpec := { name := "streamOther", fn := fun _ => fun
  | [d1, d2, d3] => { results := [.lit (.bool false)], args := [d1, d2, d3] }
  | _ => none }
def StreamOtherWrongFalsely : Prop := streamOtherRow.holds Tryz.pinned (OpenSpec.ofChange streamOtherWrong)

/-- 'cambiumlaw18.StreamChains': WHATEVER THE INPUT: true; the input reads as it did. -/
def streamChainsSpec : ChangeSpec := { name := "streamChains", fn := fun _ => fun
  | [d1, d2, d3] => { results := [.lit (.bool true)], args := [d1, d2, d3] }
  | _ => none }
def streamChainsRow : OpenClaim := { program := "ytjkmfonngbendaagreatdoor", sum := "7d19b2b1235f95182fdfc410028fdc78e4841caf07b10145c26c82f5578c1868", func := "cambium/cambiumlaw18.StreamChains", spec := "streamChains", inPlace := ["internal/bytealg.IndexByteString", "internal/bytealg.IndexString", "sync/atomic.LoadUint32", "(*internal/sync.Mutex).Lock", "internal/race.Disable", "sync/atomic.CompareAndSwapInt32", "internal/race.Enable", "internal/race.Acquire", "(*internal/sync.Mutex).lockSlow", "internal/sync.runtime_canSpin", "internal/sync.runtime_doSpin", "internal/sync.throw", "internal/sync.runtime_nanotime", "internal/sync.runtime_SemacquireMutex", "sync/atomic.AddInt32", "(*internal/sync.Mutex).Unlock", "internal/race.ReleaseMerge", "(*internal/sync.Mutex).unlockSlow", "internal/sync.fatal", "internal/sync.runtime_Semrelease", "sync/atomic.StoreUint32", "internal/abi.NoEscape", "sync/atomic.AddInt64", "sync/atomic.LoadInt64", "internal/bytealg.abigen_runtime_cmpstring"], unfollowed := true, recurses := true, named := ["internal/bytealg.MaxLen", "cambium/hash.firstState", "cambium/hash.roundWords"], plainKeys := false, apart := false, laid := [("cambium/hash.firstState", laid_cambium_hash_firstState), ("cambium/hash.roundWords", laid_cambium_hash_roundWords)] }
def StreamChainsSaid : Prop := streamChainsRow.holds Tryz.pinned (OpenSpec.ofChange streamChainsSpec)

/-- ITS FALSE NEIGHBOUR: 'it returns false'. Refute it at one input. -/
def streamChainsWrong : ChangeSpec := { name := "streamChains", fn := fun _ => fun
  | [d1, d2, d3] => { results := [.lit (.bool false)], args := [d1, d2, d3] }
  | _ => none }
def StreamChainsWrongFalsely : Prop := streamChainsRow.holds Tryz.pinned (OpenSpec.ofChange streamChainsWrong)

/-- 'cambiumlaw18.StreamCut': WHATEVER THE INPUT: true; the input reads as it did. -/
def streamCutSpec : ChangeSpec := { name := "streamCut", fn := fun _ => fun
  | [d1, d2, d3, d4] => { results := [.lit (.bool true)], args := [d1, d2, d3, d4] }
  | _ => none }
def streamCutRow : OpenClaim := { program := "ytjkmfonngbendaagreatdoor", sum := "7d19b2b1235f95182fdfc410028fdc78e4841caf07b10145c26c82f5578c1868", func := "cambium/cambiumlaw18.StreamCut", spec := "streamCut", inPlace := ["internal/bytealg.IndexByteString", "internal/bytealg.IndexString", "sync/atomic.LoadUint32", "(*internal/sync.Mutex).Lock", "internal/race.Disable", "sync/atomic.CompareAndSwapInt32", "internal/race.Enable", "internal/race.Acquire", "(*internal/sync.Mutex).lockSlow", "internal/sync.runtime_canSpin", "internal/sync.runtime_doSpin", "internal/sync.throw", "internal/sync.runtime_nanotime", "internal/sync.runtime_SemacquireMutex", "sync/atomic.AddInt32", "(*internal/sync.Mutex).Unlock", "internal/race.ReleaseMerge", "(*internal/sync.Mutex).unlockSlow", "internal/sync.fatal", "internal/sync.runtime_Semrelease", "sync/atomic.StoreUint32", "internal/abi.NoEscape", "sync/atomic.AddInt64", "sync/atomic.LoadInt64", "internal/bytealg.abigen_runtime_cmpstring"], unfollowed := true, recurses := true, named := ["internal/bytealg.MaxLen", "cambium/hash.firstState", "cambium/hash.roundWords"], plainKeys := false, apart := false, laid := [("cambium/hash.firstState", laid_cambium_hash_firstState), ("cambium/hash.roundWords", laid_cambium_hash_roundWords)] }
def StreamCutSaid : Prop := streamCutRow.holds Tryz.pinned (OpenSpec.ofChange streamCutSpec)

/-- ITS FALSE NEIGHBOUR: 'it returns false'. Refute it at one input. -/
def streamCutWrong : ChangeSpec := { name := "streamCut", fn := fun _ => fun
  | [d1, d2, d3, d4] => { results := [.lit (.bool false)], args := [d1, d2, d3, d4] }
  | _ => none }
def StreamCutWrongFalsely : Prop := streamCutRow.holds Tryz.pinned (OpenSpec.ofChange streamCutWrong)

/- THE SECOND FORM. 'bulk': how many values and letters a reading holds, each counted each time it is reached (what is shared counts as often as it is met; a slice's spare places count too). A statement '..UptoSaid' is the law's where the arguments, and the package variables that the reading takes, are together of bulk at most 1048576: NARROWER than '..Said'. Prove '..Said' where nothing that the law and all that it calls make is longer than what came in: it says more and counts as full. Else prove '..UptoSaid'. A law counts once. -/
mutual
def uptoBulk {H : Type} : DataW H → Nat
  | .lit (.string bytes) => bytes.length + 1
  | .lit _ => 1
  | .nil => 1
  | .ptr d => uptoBulk d + 1
  | .slice elems spare => uptoBulkAll elems + uptoBulkAll spare + 1
  | .agg parts => uptoBulkAll parts + 1
  | .iface _ d => uptoBulk d + 1
  | .map entries => uptoBulkEntries entries + 1
  | .held _ => 1
def uptoBulkAll {H : Type} : List (DataW H) → Nat
  | [] => 0
  | d :: r => uptoBulk d + uptoBulkAll r
def uptoBulkEntries {H : Type} : List (Lit × DataW H) → Nat
  | [] => 0
  | x :: r => uptoBulkEntry x + uptoBulkEntries r
def uptoBulkEntry {H : Type} : Lit × DataW H → Nat
  | (.string bytes, d) => bytes.length + uptoBulk d + 1
  | (_, d) => uptoBulk d + 1
 end
def uptoSmall : (H : Type) → List (DataW H) → Bool := fun _ ds => decide (uptoBulkAll ds ≤ 1048576)
def OpenSpec.upto (s : _root_.Go.ChangeSpec) : _root_.Go.OpenSpec := { _root_.Go.OpenSpec.ofChange s with cond := some uptoSmall }

/-- 'cambiumtop.TopSized', WHERE WHAT IT READS IS OF BULK AT MOST 1048576: true; the input reads as it did. -/
def topSizedUptoRow : OpenClaim := { program := "ytjkmfonngbendaagreatdoor", sum := "7d19b2b1235f95182fdfc410028fdc78e4841caf07b10145c26c82f5578c1868", func := "cambium/cambiumtop.TopSized", spec := "topSized", inPlace := ["sync/atomic.AddInt64", "sync/atomic.LoadInt64", "sync/atomic.LoadUint32", "(*internal/sync.Mutex).Lock", "internal/race.Disable", "sync/atomic.CompareAndSwapInt32", "internal/race.Enable", "internal/race.Acquire", "(*internal/sync.Mutex).lockSlow", "internal/sync.runtime_canSpin", "internal/sync.runtime_doSpin", "internal/sync.throw", "internal/sync.runtime_nanotime", "internal/sync.runtime_SemacquireMutex", "sync/atomic.AddInt32", "(*internal/sync.Mutex).Unlock", "internal/race.ReleaseMerge", "(*internal/sync.Mutex).unlockSlow", "internal/sync.fatal", "internal/sync.runtime_Semrelease", "sync/atomic.StoreUint32", "internal/bytealg.abigen_runtime_cmpstring", "internal/bytealg.IndexByteString", "internal/bytealg.IndexString"], unfollowed := true, recurses := true, named := ["cambium/hash.firstState", "cambium/hash.roundWords", "internal/bytealg.MaxLen", "unicode/utf8.first", "unicode/utf8.acceptRanges"], plainKeys := false, apart := false, laid := [("unicode/utf8.acceptRanges", laid_unicode_utf8_acceptRanges), ("cambium/hash.firstState", laid_cambium_hash_firstState), ("cambium/hash.roundWords", laid_cambium_hash_roundWords), ("unicode/utf8.first", laid_unicode_utf8_first)], narrowed := true }
def TopSizedUptoSaid : Prop := topSizedUptoRow.holds Tryz.pinned (OpenSpec.upto topSizedSpec)

/-- 'cambiumlaw18.StreamDoes', WHERE WHAT IT READS IS OF BULK AT MOST 1048576: true; the input reads as it did. -/
def streamDoesUptoRow : OpenClaim := { program := "ytjkmfonngbendaagreatdoor", sum := "7d19b2b1235f95182fdfc410028fdc78e4841caf07b10145c26c82f5578c1868", func := "cambium/cambiumlaw18.StreamDoes", spec := "streamDoes", inPlace := ["sync/atomic.LoadUint32", "(*internal/sync.Mutex).Lock", "internal/race.Disable", "sync/atomic.CompareAndSwapInt32", "internal/race.Enable", "internal/race.Acquire", "(*internal/sync.Mutex).lockSlow", "internal/sync.runtime_canSpin", "internal/sync.runtime_doSpin", "internal/sync.throw", "internal/sync.runtime_nanotime", "internal/sync.runtime_SemacquireMutex", "sync/atomic.AddInt32", "(*internal/sync.Mutex).Unlock", "internal/race.ReleaseMerge", "(*internal/sync.Mutex).unlockSlow", "internal/sync.fatal", "internal/sync.runtime_Semrelease", "sync/atomic.StoreUint32", "internal/bytealg.IndexByteString", "internal/bytealg.IndexString", "internal/abi.NoEscape", "sync/atomic.AddInt64", "sync/atomic.LoadInt64", "internal/bytealg.abigen_runtime_cmpstring"], unfollowed := true, recurses := true, named := ["internal/bytealg.MaxLen", "cambium/hash.firstState", "cambium/hash.roundWords"], plainKeys := false, apart := false, laid := [("cambium/hash.firstState", laid_cambium_hash_firstState), ("cambium/hash.roundWords", laid_cambium_hash_roundWords)], narrowed := true }
def StreamDoesUptoSaid : Prop := streamDoesUptoRow.holds Tryz.pinned (OpenSpec.upto streamDoesSpec)

/-- 'cambiumlaw18.StreamBack', WHERE WHAT IT READS IS OF BULK AT MOST 1048576: true; the input reads as it did. -/
def streamBackUptoRow : OpenClaim := { program := "ytjkmfonngbendaagreatdoor", sum := "7d19b2b1235f95182fdfc410028fdc78e4841caf07b10145c26c82f5578c1868", func := "cambium/cambiumlaw18.StreamBack", spec := "streamBack", inPlace := ["internal/bytealg.IndexByteString", "internal/bytealg.IndexString", "sync/atomic.LoadUint32", "(*internal/sync.Mutex).Lock", "internal/race.Disable", "sync/atomic.CompareAndSwapInt32", "internal/race.Enable", "internal/race.Acquire", "(*internal/sync.Mutex).lockSlow", "internal/sync.runtime_canSpin", "internal/sync.runtime_doSpin", "internal/sync.throw", "internal/sync.runtime_nanotime", "internal/sync.runtime_SemacquireMutex", "sync/atomic.AddInt32", "(*internal/sync.Mutex).Unlock", "internal/race.ReleaseMerge", "(*internal/sync.Mutex).unlockSlow", "internal/sync.fatal", "internal/sync.runtime_Semrelease", "sync/atomic.StoreUint32", "internal/abi.NoEscape", "sync/atomic.AddInt64", "sync/atomic.LoadInt64", "internal/bytealg.abigen_runtime_cmpstring"], unfollowed := true, recurses := true, named := ["internal/bytealg.MaxLen", "cambium/hash.firstState", "cambium/hash.roundWords"], plainKeys := false, apart := false, laid := [("cambium/hash.firstState", laid_cambium_hash_firstState), ("cambium/hash.roundWords", laid_cambium_hash_roundWords)], narrowed := true }
def StreamBackUptoSaid : Prop := streamBackUptoRow.holds Tryz.pinned (OpenSpec.upto streamBackSpec)

/-- 'cambiumlaw18.StreamTurned', WHERE WHAT IT READS IS OF BULK AT MOST 1048576: true; the input reads as it did. -/
def streamTurnedUptoRow : OpenClaim := { program := "ytjkmfonngbendaagreatdoor", sum := "7d19b2b1235f95182fdfc410028fdc78e4841caf07b10145c26c82f5578c1868", func := "cambium/cambiumlaw18.StreamTurned", spec := "streamTurned", inPlace := ["internal/bytealg.IndexByteString", "internal/bytealg.IndexString", "sync/atomic.LoadUint32", "(*internal/sync.Mutex).Lock", "internal/race.Disable", "sync/atomic.CompareAndSwapInt32", "internal/race.Enable", "internal/race.Acquire", "(*internal/sync.Mutex).lockSlow", "internal/sync.runtime_canSpin", "internal/sync.runtime_doSpin", "internal/sync.throw", "internal/sync.runtime_nanotime", "internal/sync.runtime_SemacquireMutex", "sync/atomic.AddInt32", "(*internal/sync.Mutex).Unlock", "internal/race.ReleaseMerge", "(*internal/sync.Mutex).unlockSlow", "internal/sync.fatal", "internal/sync.runtime_Semrelease", "sync/atomic.StoreUint32", "internal/abi.NoEscape", "sync/atomic.AddInt64", "sync/atomic.LoadInt64", "internal/bytealg.abigen_runtime_cmpstring"], unfollowed := true, recurses := true, named := ["internal/bytealg.MaxLen", "cambium/hash.firstState", "cambium/hash.roundWords"], plainKeys := false, apart := false, laid := [("cambium/hash.firstState", laid_cambium_hash_firstState), ("cambium/hash.roundWords", laid_cambium_hash_roundWords)], narrowed := true }
def StreamTurnedUptoSaid : Prop := streamTurnedUptoRow.holds Tryz.pinned (OpenSpec.upto streamTurnedSpec)

/-- 'cambiumlaw18.StreamRight', WHERE WHAT IT READS IS OF BULK AT MOST 1048576: true; the input reads as it did. -/
def streamRightUptoRow : OpenClaim := { program := "ytjkmfonngbendaagreatdoor", sum := "7d19b2b1235f95182fdfc410028fdc78e4841caf07b10145c26c82f5578c1868", func := "cambium/cambiumlaw18.StreamRight", spec := "streamRight", inPlace := ["internal/bytealg.IndexByteString", "internal/bytealg.IndexString", "sync/atomic.LoadUint32", "(*internal/sync.Mutex).Lock", "internal/race.Disable", "sync/atomic.CompareAndSwapInt32", "internal/race.Enable", "internal/race.Acquire", "(*internal/sync.Mutex).lockSlow", "internal/sync.runtime_canSpin", "internal/sync.runtime_doSpin", "internal/sync.throw", "internal/sync.runtime_nanotime", "internal/sync.runtime_SemacquireMutex", "sync/atomic.AddInt32", "(*internal/sync.Mutex).Unlock", "internal/race.ReleaseMerge", "(*internal/sync.Mutex).unlockSlow", "internal/sync.fatal", "internal/sync.runtime_Semrelease", "sync/atomic.StoreUint32", "internal/abi.NoEscape", "sync/atomic.AddInt64", "sync/atomic.LoadInt64", "internal/bytealg.abigen_runtime_cmpstring"], unfollowed := true, recurses := true, named := ["internal/bytealg.MaxLen", "cambium/hash.firstState", "cambium/hash.roundWords"], plainKeys := false, apart := false, laid := [("cambium/hash.firstState", laid_cambium_hash_firstState), ("cambium/hash.roundWords", laid_cambium_hash_roundWords)], narrowed := true }
def StreamRightUptoSaid : Prop := streamRightUptoRow.holds Tryz.pinned (OpenSpec.upto streamRightSpec)

/-- 'cambiumlaw18.StreamOther', WHERE WHAT IT READS IS OF BULK AT MOST 1048576: true; the input reads as it did. -/
def streamOtherUptoRow : OpenClaim := { program := "ytjkmfonngbendaagreatdoor", sum := "7d19b2b1235f95182fdfc410028fdc78e4841caf07b10145c26c82f5578c1868", func := "cambium/cambiumlaw18.StreamOther", spec := "streamOther", inPlace := ["internal/bytealg.IndexByteString", "internal/bytealg.IndexString", "sync/atomic.LoadUint32", "(*internal/sync.Mutex).Lock", "internal/race.Disable", "sync/atomic.CompareAndSwapInt32", "internal/race.Enable", "internal/race.Acquire", "(*internal/sync.Mutex).lockSlow", "internal/sync.runtime_canSpin", "internal/sync.runtime_doSpin", "internal/sync.throw", "internal/sync.runtime_nanotime", "internal/sync.runtime_SemacquireMutex", "sync/atomic.AddInt32", "(*internal/sync.Mutex).Unlock", "internal/race.ReleaseMerge", "(*internal/sync.Mutex).unlockSlow", "internal/sync.fatal", "internal/sync.runtime_Semrelease", "sync/atomic.StoreUint32", "internal/abi.NoEscape", "sync/atomic.AddInt64", "sync/atomic.LoadInt64", "internal/bytealg.abigen_runtime_cmpstring"], unfollowed := true, recurses := true, named := ["internal/bytealg.MaxLen", "cambium/hash.firstState", "cambium/hash.roundWords"], plainKeys := false, apart := false, laid := [("cambium/hash.firstState", laid_cambium_hash_firstState), ("cambium/hash.roundWords", laid_cambium_hash_roundWords)], narrowed := true }
def StreamOtherUptoSaid : Prop := streamOtherUptoRow.holds Tryz.pinned (OpenSpec.upto streamOtherSpec)

/-- 'cambiumlaw18.StreamChains', WHERE WHAT IT READS IS OF BULK AT MOST 1048576: true; the input reads as it did. -/
def streamChainsUptoRow : OpenClaim := { program := "ytjkmfonngbendaagreatdoor", sum := "7d19b2b1235f95182fdfc410028fdc78e4841caf07b10145c26c82f5578c1868", func := "cambium/cambiumlaw18.StreamChains", spec := "streamChains", inPlace := ["internal/bytealg.IndexByteString", "internal/bytealg.IndexString", "sync/atomic.LoadUint32", "(*internal/sync.Mutex).Lock", "internal/race.Disable", "sync/atomic.CompareAndSwapInt32", "internal/race.Enable", "internal/race.Acquire", "(*internal/sync.Mutex).lockSlow", "internal/sync.runtime_canSpin", "internal/sync.runtime_doSpin", "internal/sync.throw", "internal/sync.runtime_nanotime", "internal/sync.runtime_SemacquireMutex", "sync/atomic.AddInt32", "(*internal/sync.Mutex).Unlock", "internal/race.ReleaseMerge", "(*internal/sync.Mutex).unlockSlow", "internal/sync.fatal", "internal/sync.runtime_Semrelease", "sync/atomic.StoreUint32", "internal/abi.NoEscape", "sync/atomic.AddInt64", "sync/atomic.LoadInt64", "internal/bytealg.abigen_runtime_cmpstring"], unfollowed := true, recurses := true, named := ["internal/bytealg.MaxLen", "cambium/hash.firstState", "cambium/hash.roundWords"], plainKeys := false, apart := false, laid := [("cambium/hash.firstState", laid_cambium_hash_firstState), ("cambium/hash.roundWords", laid_cambium_hash_roundWords)], narrowed := true }
def StreamChainsUptoSaid : Prop := streamChainsUptoRow.holds Tryz.pinned (OpenSpec.upto streamChainsSpec)

/-- 'cambiumlaw18.StreamCut', WHERE WHAT IT READS IS OF BULK AT MOST 1048576: true; the input reads as it did. -/
def streamCutUptoRow : OpenClaim := { program := "ytjkmfonngbendaagreatdoor", sum := "7d19b2b1235f95182fdfc410028fdc78e4841caf07b10145c26c82f5578c1868", func := "cambium/cambiumlaw18.StreamCut", spec := "streamCut", inPlace := ["internal/bytealg.IndexByteString", "internal/bytealg.IndexString", "sync/atomic.LoadUint32", "(*internal/sync.Mutex).Lock", "internal/race.Disable", "sync/atomic.CompareAndSwapInt32", "internal/race.Enable", "internal/race.Acquire", "(*internal/sync.Mutex).lockSlow", "internal/sync.runtime_canSpin", "internal/sync.runtime_doSpin", "internal/sync.throw", "internal/sync.runtime_nanotime", "internal/sync.runtime_SemacquireMutex", "sync/atomic.AddInt32", "(*internal/sync.Mutex).Unlock", "internal/race.ReleaseMerge", "(*internal/sync.Mutex).unlockSlow", "internal/sync.fatal", "internal/sync.runtime_Semrelease", "sync/atomic.StoreUint32", "internal/abi.NoEscape", "sync/atomic.AddInt64", "sync/atomic.LoadInt64", "internal/bytealg.abigen_runtime_cmpstring"], unfollowed := true, recurses := true, named := ["internal/bytealg.MaxLen", "cambium/hash.firstState", "cambium/hash.roundWords"], plainKeys := false, apart := false, laid := [("cambium/hash.firstState", laid_cambium_hash_firstState), ("cambium/hash.roundWords", laid_cambium_hash_roundWords)], narrowed := true }
def StreamCutUptoSaid : Prop := streamCutUptoRow.holds Tryz.pinned (OpenSpec.upto streamCutSpec)

end Rows
end Go.Proofs.YtjkmfonngbendaaGreatDoor
