/-
  NARROWER THAN 'FOR EVERY INPUT', by the rows' own cells (each row's printed sentence says how): RatchetPlays: laid · RatchetHeads: laid · RatchetOrder: laid · RatchetLate: laid · RatchetSpoilt: laid · RatchetSkips: laid · RatchetTurns: laid · FramePlays: laid · FrameLines: laid · FrameOpens: laid · FrameOrder: laid · FrameWays: laid.
  DERIVED. THE GIVEN ROWS OF THIS SEAT. 12 by the template 'for every input the law returns true; each argument reads behind the call as it read before'; 0 by the template 'total and deterministic' (their statements: YtakpgbaijkhpmaaGreatDoorTotals.lean).
  GIVEN WITH THE SEED: the statements are not yours to turn. If you find one false, say at which input.
  Laid BY PROGRAM, IN A SANDBOX (cutbox-rows.mjs): the forced cells as the released guide's own fill.sh prints them over the translation 02b8e36b5c51b3b8… (all of the seat's roots in one cut). By AI agents, Wed Nov 11 2026. No macro, syntax, notation, axiom, sorry.
-/
import Derived.Test.YtakpgbaijkhpmaaGreatDoorChecked
import GoSem.Claim
import GoSem.ClaimJoined
import GoSem.ClaimMapViews
import Derived.JoinedTies
import Derived.KernelRfl
namespace Go.Proofs.YtakpgbaijkhpmaaGreatDoor
/- THE CELL 'sum', in the pinned program and in every row, IS THE sha256 OF THE DUMP (.gsa) THAT YtakpgbaijkhpmaaGreatDoorProg.lean LOADS. Nothing in Lean hashes anything: it is a label: what it is worth is what the hold of that sum in a sandbox is worth. -/
noncomputable def Tryz.pinned : Pinned := { name := "ytakpgbaijkhpmaagreatdoor", sum := "02b8e36b5c51b3b8ea38c42bd58c6acd7894625e587c8e27631afc7fc1a09a08", checked := Tryz.checked }
namespace Rows
def none {H : Type} : Left H := { results := [], args := [] }

/- WHAT THE LISTED PACKAGE-LEVEL VARIABLES READ AS WHEN THE CALL BEGINS. Each datum BY PROGRAM (the guide's laid-datum.mjs) off the statement by which the dump's own 'gosem.cut.vars' lays the variable. In a bare row this is a premise. The card (YtakpgbaijkhpmaaGreatDoorCards.lean) ties it to the program's text. -/
def laid_palfrey_field_prime {H : Type} : DataW H := .agg [.lit (.int .u32 4294967277), .lit (.int .u32 4294967295), .lit (.int .u32 4294967295), .lit (.int .u32 4294967295), .lit (.int .u32 4294967295), .lit (.int .u32 4294967295), .lit (.int .u32 4294967295), .lit (.int .u32 2147483647)]
def laid_palfrey_blake_initial {H : Type} : DataW H := .agg [.lit (.int .u32 1779033703), .lit (.int .u32 3144134277), .lit (.int .u32 1013904242), .lit (.int .u32 2773480762), .lit (.int .u32 1359893119), .lit (.int .u32 2600822924), .lit (.int .u32 528734635), .lit (.int .u32 1541459225)]

/-- 'palfreylaw13.RatchetPlays': WHATEVER THE INPUT: true; the input reads as it did. -/
def ratchetPlaysSpec : ChangeSpec := { name := "ratchetPlays", fn := fun _ => fun
  | [d1, d2] => { results := [.lit (.bool true)], args := [d1, d2] }
  | _ => none }
def ratchetPlaysRow : OpenClaim := { program := "ytakpgbaijkhpmaagreatdoor", sum := "02b8e36b5c51b3b8ea38c42bd58c6acd7894625e587c8e27631afc7fc1a09a08", func := "palfrey/palfreylaw13.RatchetPlays", spec := "ratchetPlays", inPlace := ["sync/atomic.LoadUint32", "(*internal/sync.Mutex).Lock", "internal/race.Disable", "sync/atomic.CompareAndSwapInt32", "internal/race.Enable", "internal/race.Acquire", "(*internal/sync.Mutex).lockSlow", "internal/sync.runtime_canSpin", "internal/sync.runtime_doSpin", "internal/sync.throw", "internal/sync.runtime_nanotime", "internal/sync.runtime_SemacquireMutex", "sync/atomic.AddInt32", "(*internal/sync.Mutex).Unlock", "internal/race.ReleaseMerge", "(*internal/sync.Mutex).unlockSlow", "internal/sync.fatal", "internal/sync.runtime_Semrelease", "sync/atomic.StoreUint32"], unfollowed := true, recurses := true, named := ["palfrey/blake.initial", "palfrey/field.prime"], plainKeys := false, apart := false, laid := [("palfrey/field.prime", laid_palfrey_field_prime), ("palfrey/blake.initial", laid_palfrey_blake_initial)] }
def RatchetPlaysSaid : Prop := ratchetPlaysRow.holds Tryz.pinned (OpenSpec.ofChange ratchetPlaysSpec)

/-- ITS FALSE NEIGHBOUR: 'it returns false'. Refute it at one input. -/
def ratchetPlaysWrong : ChangeSpec := { name := "ratchetPlays", fn := fun _ => fun
  | [d1, d2] => { results := [.lit (.bool false)], args := [d1, d2] }
  | _ => none }
def RatchetPlaysWrongFalsely : Prop := ratchetPlaysRow.holds Tryz.pinned (OpenSpec.ofChange ratchetPlaysWrong)

/-- 'palfreylaw13.RatchetHeads': WHATEVER THE INPUT: true; the input reads as it did. -/
def ratchetHeadsSpec : ChangeSpec := { name := "ratchetHeads", fn := fun _ => fun
  | [d1, d2, d3] => { results := [.lit (.bool true)], args := [d1, d2, d3] }
  | _ => none }
def ratchetHeadsRow : OpenClaim := { program := "ytakpgbaijkhpmaagreatdoor", sum := "02b8e36b5c51b3b8ea38c42bd58c6acd7894625e587c8e27631afc7fc1a09a08", func := "palfrey/palfreylaw13.RatchetHeads", spec := "ratchetHeads", inPlace := ["sync/atomic.LoadUint32", "(*internal/sync.Mutex).Lock", "internal/race.Disable", "sync/atomic.CompareAndSwapInt32", "internal/race.Enable", "internal/race.Acquire", "(*internal/sync.Mutex).lockSlow", "internal/sync.runtime_canSpin", "internal/sync.runtime_doSpin", "internal/sync.throw", "internal/sync.runtime_nanotime", "internal/sync.runtime_SemacquireMutex", "sync/atomic.AddInt32", "(*internal/sync.Mutex).Unlock", "internal/race.ReleaseMerge", "(*internal/sync.Mutex).unlockSlow", "internal/sync.fatal", "internal/sync.runtime_Semrelease", "sync/atomic.StoreUint32"], unfollowed := true, recurses := true, named := ["palfrey/blake.initial", "palfrey/field.prime"], plainKeys := false, apart := false, laid := [("palfrey/field.prime", laid_palfrey_field_prime), ("palfrey/blake.initial", laid_palfrey_blake_initial)] }
def RatchetHeadsSaid : Prop := ratchetHeadsRow.holds Tryz.pinned (OpenSpec.ofChange ratchetHeadsSpec)

/-- ITS FALSE NEIGHBOUR: 'it returns false'. Refute it at one input. -/
def ratchetHeadsWrong : ChangeSpec := { name := "ratchetHeads", fn := fun _ => fun
  | [d1, d2, d3] => { results := [.lit (.bool false)], args := [d1, d2, d3] }
  | _ => none }
def RatchetHeadsWrongFalsely : Prop := ratchetHeadsRow.holds Tryz.pinned (OpenSpec.ofChange ratchetHeadsWrong)

/-- 'palfreylaw13.RatchetOrder': WHATEVER THE INPUT: true; the input reads as it did. -/
def ratchetOrderSpec : ChangeSpec := { name := "ratchetOrder", fn := fun _ => fun
  | [d1, d2, d3] => { results := [.lit (.bool true)], args := [d1, d2, d3] }
  | _ => none }
def ratchetOrderRow : OpenClaim := { program := "ytakpgbaijkhpmaagreatdoor", sum := "02b8e36b5c51b3b8ea38c42bd58c6acd7894625e587c8e27631afc7fc1a09a08", func := "palfrey/palfreylaw13.RatchetOrder", spec := "ratchetOrder", inPlace := ["sync/atomic.LoadUint32", "(*internal/sync.Mutex).Lock", "internal/race.Disable", "sync/atomic.CompareAndSwapInt32", "internal/race.Enable", "internal/race.Acquire", "(*internal/sync.Mutex).lockSlow", "internal/sync.runtime_canSpin", "internal/sync.runtime_doSpin", "internal/sync.throw", "internal/sync.runtime_nanotime", "internal/sync.runtime_SemacquireMutex", "sync/atomic.AddInt32", "(*internal/sync.Mutex).Unlock", "internal/race.ReleaseMerge", "(*internal/sync.Mutex).unlockSlow", "internal/sync.fatal", "internal/sync.runtime_Semrelease", "sync/atomic.StoreUint32"], unfollowed := true, recurses := true, named := ["palfrey/blake.initial", "palfrey/field.prime"], plainKeys := false, apart := false, laid := [("palfrey/field.prime", laid_palfrey_field_prime), ("palfrey/blake.initial", laid_palfrey_blake_initial)] }
def RatchetOrderSaid : Prop := ratchetOrderRow.holds Tryz.pinned (OpenSpec.ofChange ratchetOrderSpec)

/-- ITS FALSE NEIGHBOUR: 'it returns false'. Refute it at one input. -/
def ratchetOrderWrong : ChangeSpec := { name := "ratchetOrder", fn := fun _ => fun
  | [d1, d2, d3] => { results := [.lit (.bool false)], args := [d1, d2, d3] }
  | _ => none }
def RatchetOrderWrongFalsely : Prop := ratchetOrderRow.holds Tryz.pinned (OpenSpec.ofChange ratchetOrderWrong)

/-- 'palfreylaw13.RatchetLate': WHATEVER THE INPUT: true; the input reads as it did. -/
def ratchetLateSpec : ChangeSpec := { name := "ratchetLate", fn := fun _ => fun
  | [d1, d2, d3] => { results := [.lit (.bool true)], args := [d1, d2, d3] }
  | _ => none }
def ratchetLateRow : OpenClaim := { program := "ytakpgbaijkhpmaagreatdoor", sum := "02b8e36b5c51b3b8ea38c42bd58c6acd7894625e587c8e27631afc7fc1a09a08", func := "palfrey/palfreylaw13.RatchetLate", spec := "ratchetLate", inPlace := ["sync/atomic.LoadUint32", "(*internal/sync.Mutex).Lock", "internal/race.Disable", "sync/atomic.CompareAndSwapInt32", "internal/race.Enable", "internal/race.Acquire", "(*internal/sync.Mutex).lockSlow", "internal/sync.runtime_canSpin", "internal/sync.runtime_doSpin", "internal/sync.throw", "internal/sync.runtime_nanotime", "internal/sync.runtime_SemacquireMutex", "sync/atomic.AddInt32", "(*internal/sync.Mutex).Unlock", "internal/race.ReleaseMerge", "(*internal/sync.Mutex).unlockSlow", "internal/sync.fatal", "internal/sync.runtime_Semrelease", "sync/atomic.StoreUint32"], unfollowed := true, recurses := true, named := ["palfrey/blake.initial", "palfrey/field.prime"], plainKeys := false, apart := false, laid := [("palfrey/field.prime", laid_palfrey_field_prime), ("palfrey/blake.initial", laid_palfrey_blake_initial)] }
def RatchetLateSaid : Prop := ratchetLateRow.holds Tryz.pinned (OpenSpec.ofChange ratchetLateSpec)

/-- ITS FALSE NEIGHBOUR: 'it returns false'. Refute it at one input. -/
def ratchetLateWrong : ChangeSpec := { name := "ratchetLate", fn := fun _ => fun
  | [d1, d2, d3] => { results := [.lit (.bool false)], args := [d1, d2, d3] }
  | _ => none }
def RatchetLateWrongFalsely : Prop := ratchetLateRow.holds Tryz.pinned (OpenSpec.ofChange ratchetLateWrong)

/-- 'palfreylaw13.RatchetSpoilt': WHATEVER THE INPUT: true; the input reads as it did. -/
def ratchetSpoiltSpec : ChangeSpec := { name := "ratchetSpoilt", fn := fun _ => fun
  | [d1, d2, d3] => { results := [.lit (.bool true)], args := [d1, d2, d3] }
  | _ => none }
def ratchetSpoiltRow : OpenClaim := { program := "ytakpgbaijkhpmaagreatdoor", sum := "02b8e36b5c51b3b8ea38c42bd58c6acd7894625e587c8e27631afc7fc1a09a08", func := "palfrey/palfreylaw13.RatchetSpoilt", spec := "ratchetSpoilt", inPlace := ["sync/atomic.LoadUint32", "(*internal/sync.Mutex).Lock", "internal/race.Disable", "sync/atomic.CompareAndSwapInt32", "internal/race.Enable", "internal/race.Acquire", "(*internal/sync.Mutex).lockSlow", "internal/sync.runtime_canSpin", "internal/sync.runtime_doSpin", "internal/sync.throw", "internal/sync.runtime_nanotime", "internal/sync.runtime_SemacquireMutex", "sync/atomic.AddInt32", "(*internal/sync.Mutex).Unlock", "internal/race.ReleaseMerge", "(*internal/sync.Mutex).unlockSlow", "internal/sync.fatal", "internal/sync.runtime_Semrelease", "sync/atomic.StoreUint32"], unfollowed := true, recurses := true, named := ["palfrey/blake.initial", "palfrey/field.prime"], plainKeys := false, apart := false, laid := [("palfrey/field.prime", laid_palfrey_field_prime), ("palfrey/blake.initial", laid_palfrey_blake_initial)] }
def RatchetSpoiltSaid : Prop := ratchetSpoiltRow.holds Tryz.pinned (OpenSpec.ofChange ratchetSpoiltSpec)

/-- ITS FALSE NEIGHBOUR: 'it returns false'. Refute it at one input. -/
def ratchetSpoiltWrong : ChangeSpec := { name := "ratchetSpoilt", fn := fun _ => fun
  | [d1, d2, d3] => { results := [.lit (.bool false)], args := [d1, d2, d3] }
  | _ => none }
def RatchetSpoiltWrongFalsely : Prop := ratchetSpoiltRow.holds Tryz.pinned (OpenSpec.ofChange ratchetSpoiltWrong)

/-- 'palfreylaw13.RatchetSkips': WHATEVER THE INPUT: true; the input reads as it did. -/
def ratchetSkipsSpec : ChangeSpec := { name := "ratchetSkips", fn := fun _ => fun
  | [d1, d2] => { results := [.lit (.bool true)], args := [d1, d2] }
  | _ => none }
def ratchetSkipsRow : OpenClaim := { program := "ytakpgbaijkhpmaagreatdoor", sum := "02b8e36b5c51b3b8ea38c42bd58c6acd7894625e587c8e27631afc7fc1a09a08", func := "palfrey/palfreylaw13.RatchetSkips", spec := "ratchetSkips", inPlace := ["sync/atomic.LoadUint32", "(*internal/sync.Mutex).Lock", "internal/race.Disable", "sync/atomic.CompareAndSwapInt32", "internal/race.Enable", "internal/race.Acquire", "(*internal/sync.Mutex).lockSlow", "internal/sync.runtime_canSpin", "internal/sync.runtime_doSpin", "internal/sync.throw", "internal/sync.runtime_nanotime", "internal/sync.runtime_SemacquireMutex", "sync/atomic.AddInt32", "(*internal/sync.Mutex).Unlock", "internal/race.ReleaseMerge", "(*internal/sync.Mutex).unlockSlow", "internal/sync.fatal", "internal/sync.runtime_Semrelease", "sync/atomic.StoreUint32"], unfollowed := true, recurses := true, named := ["palfrey/blake.initial", "palfrey/field.prime"], plainKeys := false, apart := false, laid := [("palfrey/field.prime", laid_palfrey_field_prime), ("palfrey/blake.initial", laid_palfrey_blake_initial)] }
def RatchetSkipsSaid : Prop := ratchetSkipsRow.holds Tryz.pinned (OpenSpec.ofChange ratchetSkipsSpec)

/-- ITS FALSE NEIGHBOUR: 'it returns false'. Refute it at one input. -/
def ratchetSkipsWrong : ChangeSpec := { name := "ratchetSkips", fn := fun _ => fun
  | [d1, d2] => { results := [.lit (.bool false)], args := [d1, d2] }
  | _ => none }
def RatchetSkipsWrongFalsely : Prop := ratchetSkipsRow.holds Tryz.pinned (OpenSpec.ofChange ratchetSkipsWrong)

/-- 'palfreylaw13.RatchetTurns': WHATEVER THE INPUT: true; the input reads as it did. -/
def ratchetTurnsSpec : ChangeSpec := { name := "ratchetTurns", fn := fun _ => fun
  | [d1, d2] => { results := [.lit (.bool true)], args := [d1, d2] }
  | _ => none }
def ratchetTurnsRow : OpenClaim := { program := "ytakpgbaijkhpmaagreatdoor", sum := "02b8e36b5c51b3b8ea38c42bd58c6acd7894625e587c8e27631afc7fc1a09a08", func := "palfrey/palfreylaw13.RatchetTurns", spec := "ratchetTurns", inPlace := ["sync/atomic.LoadUint32", "(*internal/sync.Mutex).Lock", "internal/race.Disable", "sync/atomic.CompareAndSwapInt32", "internal/race.Enable", "internal/race.Acquire", "(*internal/sync.Mutex).lockSlow", "internal/sync.runtime_canSpin", "internal/sync.runtime_doSpin", "internal/sync.throw", "internal/sync.runtime_nanotime", "internal/sync.runtime_SemacquireMutex", "sync/atomic.AddInt32", "(*internal/sync.Mutex).Unlock", "internal/race.ReleaseMerge", "(*internal/sync.Mutex).unlockSlow", "internal/sync.fatal", "internal/sync.runtime_Semrelease", "sync/atomic.StoreUint32"], unfollowed := true, recurses := true, named := ["palfrey/blake.initial", "palfrey/field.prime"], plainKeys := false, apart := false, laid := [("palfrey/field.prime", laid_palfrey_field_prime), ("palfrey/blake.initial", laid_palfrey_blake_initial)] }
def RatchetTurnsSaid : Prop := ratchetTurnsRow.holds Tryz.pinned (OpenSpec.ofChange ratchetTurnsSpec)

/-- ITS FALSE NEIGHBOUR: 'it returns false'. Refute it at one input. -/
def ratchetTurnsWrong : ChangeSpec := { name := "ratchetTurns", fn := fun _ => fun
  | [d1, d2] => { results := [.lit (.bool false)], args := [d1, d2] }
  | _ => none }
def RatchetTurnsWrongFalsely : Prop := ratchetTurnsRow.holds Tryz.pinned (OpenSpec.ofChange ratchetTurnsWrong)

/-- 'palfreylaw15.FramePlays': WHATEVER THE INPUT: true; the input reads as it did. -/
def framePlaysSpec : ChangeSpec := { name := "framePlays", fn := fun _ => fun
  | [d1, d2] => { results := [.lit (.bool true)], args := [d1, d2] }
  | _ => none }
def framePlaysRow : OpenClaim := { program := "ytakpgbaijkhpmaagreatdoor", sum := "02b8e36b5c51b3b8ea38c42bd58c6acd7894625e587c8e27631afc7fc1a09a08", func := "palfrey/palfreylaw15.FramePlays", spec := "framePlays", inPlace := ["sync/atomic.LoadUint32", "(*internal/sync.Mutex).Lock", "internal/race.Disable", "sync/atomic.CompareAndSwapInt32", "internal/race.Enable", "internal/race.Acquire", "(*internal/sync.Mutex).lockSlow", "internal/sync.runtime_canSpin", "internal/sync.runtime_doSpin", "internal/sync.throw", "internal/sync.runtime_nanotime", "internal/sync.runtime_SemacquireMutex", "sync/atomic.AddInt32", "(*internal/sync.Mutex).Unlock", "internal/race.ReleaseMerge", "(*internal/sync.Mutex).unlockSlow", "internal/sync.fatal", "internal/sync.runtime_Semrelease", "sync/atomic.StoreUint32"], unfollowed := true, recurses := true, named := ["palfrey/blake.initial", "palfrey/field.prime"], plainKeys := false, apart := false, laid := [("palfrey/field.prime", laid_palfrey_field_prime), ("palfrey/blake.initial", laid_palfrey_blake_initial)] }
def FramePlaysSaid : Prop := framePlaysRow.holds Tryz.pinned (OpenSpec.ofChange framePlaysSpec)

/-- ITS FALSE NEIGHBOUR: 'it returns false'. Refute it at one input. -/
def framePlaysWrong : ChangeSpec := { name := "framePlays", fn := fun _ => fun
  | [d1, d2] => { results := [.lit (.bool false)], args := [d1, d2] }
  | _ => none }
def FramePlaysWrongFalsely : Prop := framePlaysRow.holds Tryz.pinned (OpenSpec.ofChange framePlaysWrong)

/-- 'palfreylaw15.FrameLines': WHATEVER THE INPUT: true; the input reads as it did. -/
def frameLinesSpec : ChangeSpec := { name := "frameLines", fn := fun _ => fun
  | [d1, d2] => { results := [.lit (.bool true)], args := [d1, d2] }
  | _ => none }
def frameLinesRow : OpenClaim := { program := "ytakpgbaijkhpmaagreatdoor", sum := "02b8e36b5c51b3b8ea38c42bd58c6acd7894625e587c8e27631afc7fc1a09a08", func := "palfrey/palfreylaw15.FrameLines", spec := "frameLines", inPlace := ["sync/atomic.LoadUint32", "(*internal/sync.Mutex).Lock", "internal/race.Disable", "sync/atomic.CompareAndSwapInt32", "internal/race.Enable", "internal/race.Acquire", "(*internal/sync.Mutex).lockSlow", "internal/sync.runtime_canSpin", "internal/sync.runtime_doSpin", "internal/sync.throw", "internal/sync.runtime_nanotime", "internal/sync.runtime_SemacquireMutex", "sync/atomic.AddInt32", "(*internal/sync.Mutex).Unlock", "internal/race.ReleaseMerge", "(*internal/sync.Mutex).unlockSlow", "internal/sync.fatal", "internal/sync.runtime_Semrelease", "sync/atomic.StoreUint32"], unfollowed := true, recurses := true, named := ["palfrey/blake.initial", "palfrey/field.prime"], plainKeys := false, apart := false, laid := [("palfrey/field.prime", laid_palfrey_field_prime), ("palfrey/blake.initial", laid_palfrey_blake_initial)] }
def FrameLinesSaid : Prop := frameLinesRow.holds Tryz.pinned (OpenSpec.ofChange frameLinesSpec)

/-- ITS FALSE NEIGHBOUR: 'it returns false'. Refute it at one input. -/
def frameLinesWrong : ChangeSpec := { name := "frameLines", fn := fun _ => fun
  | [d1, d2] => { results := [.lit (.bool false)], args := [d1, d2] }
  | _ => none }
def FrameLinesWrongFalsely : Prop := frameLinesRow.holds Tryz.pinned (OpenSpec.ofChange frameLinesWrong)

/-- 'palfreylaw15.FrameOpens': WHATEVER THE INPUT: true; the input reads as it did. -/
def frameOpensSpec : ChangeSpec := { name := "frameOpens", fn := fun _ => fun
  | [d1, d2, d3] => { results := [.lit (.bool true)], args := [d1, d2, d3] }
  | _ => none }
def frameOpensRow : OpenClaim := { program := "ytakpgbaijkhpmaagreatdoor", sum := "02b8e36b5c51b3b8ea38c42bd58c6acd7894625e587c8e27631afc7fc1a09a08", func := "palfrey/palfreylaw15.FrameOpens", spec := "frameOpens", inPlace := ["sync/atomic.LoadUint32", "(*internal/sync.Mutex).Lock", "internal/race.Disable", "sync/atomic.CompareAndSwapInt32", "internal/race.Enable", "internal/race.Acquire", "(*internal/sync.Mutex).lockSlow", "internal/sync.runtime_canSpin", "internal/sync.runtime_doSpin", "internal/sync.throw", "internal/sync.runtime_nanotime", "internal/sync.runtime_SemacquireMutex", "sync/atomic.AddInt32", "(*internal/sync.Mutex).Unlock", "internal/race.ReleaseMerge", "(*internal/sync.Mutex).unlockSlow", "internal/sync.fatal", "internal/sync.runtime_Semrelease", "sync/atomic.StoreUint32"], unfollowed := true, recurses := true, named := ["palfrey/blake.initial", "palfrey/field.prime"], plainKeys := false, apart := false, laid := [("palfrey/field.prime", laid_palfrey_field_prime), ("palfrey/blake.initial", laid_palfrey_blake_initial)] }
def FrameOpensSaid : Prop := frameOpensRow.holds Tryz.pinned (OpenSpec.ofChange frameOpensSpec)

/-- ITS FALSE NEIGHBOUR: 'it returns false'. Refute it at one input. -/
def frameOpensWrong : ChangeSpec := { name := "frameOpens", fn := fun _ => fun
  | [d1, d2, d3] => { results := [.lit (.bool false)], args := [d1, d2, d3] }
  | _ => none }
def FrameOpensWrongFalsely : Prop := frameOpensRow.holds Tryz.pinned (OpenSpec.ofChange frameOpensWrong)

/-- 'palfreylaw15.FrameOrder': WHATEVER THE INPUT: true; the input reads as it did. -/
def frameOrderSpec : ChangeSpec := { name := "frameOrder", fn := fun _ => fun
  | [d1, d2, d3] => { results := [.lit (.bool true)], args := [d1, d2, d3] }
  | _ => none }
def frameOrderRow : OpenClaim := { program := "ytakpgbaijkhpmaagreatdoor", sum := "02b8e36b5c51b3b8ea38c42bd58c6acd7894625e587c8e27631afc7fc1a09a08", func := "palfrey/palfreylaw15.FrameOrder", spec := "frameOrder", inPlace := ["sync/atomic.LoadUint32", "(*internal/sync.Mutex).Lock", "internal/race.Disable", "sync/atomic.CompareAndSwapInt32", "internal/race.Enable", "internal/race.Acquire", "(*internal/sync.Mutex).lockSlow", "internal/sync.runtime_canSpin", "internal/sync.runtime_doSpin", "internal/sync.throw", "internal/sync.runtime_nanotime", "internal/sync.runtime_SemacquireMutex", "sync/atomic.AddInt32", "(*internal/sync.Mutex).Unlock", "internal/race.ReleaseMerge", "(*internal/sync.Mutex).unlockSlow", "internal/sync.fatal", "internal/sync.runtime_Semrelease", "sync/atomic.StoreUint32"], unfollowed := true, recurses := true, named := ["palfrey/blake.initial", "palfrey/field.prime"], plainKeys := false, apart := false, laid := [("palfrey/field.prime", laid_palfrey_field_prime), ("palfrey/blake.initial", laid_palfrey_blake_initial)] }
def FrameOrderSaid : Prop := frameOrderRow.holds Tryz.pinned (OpenSpec.ofChange frameOrderSpec)

/-- ITS FALSE NEIGHBOUR: 'it returns false'. Refute it at one input. -/
def frameOrderWrong : ChangeSpec := { name := "frameOrder", fn := fun _ => fun
  | [d1, d2, d3] => { results := [.lit (.bool false)], args := [d1, d2, d3] }
  | _ => none }
def FrameOrderWrongFalsely : Prop := frameOrderRow.holds Tryz.pinned (OpenSpec.ofChange frameOrderWrong)

/-- 'palfreylaw15.FrameWays': WHATEVER THE INPUT: true; the input reads as it did. -/
def frameWaysSpec : ChangeSpec := { name := "frameWays", fn := fun _ => fun
  | [d1, d2, d3] => { results := [.lit (.bool true)], args := [d1, d2, d3] }
  | _ => none }
def frameWaysRow : OpenClaim := { program := "ytakpgbaijkhpmaagreatdoor", sum := "02b8e36b5c51b3b8ea38c42bd58c6acd7894625e587c8e27631afc7fc1a09a08", func := "palfrey/palfreylaw15.FrameWays", spec := "frameWays", inPlace := ["sync/atomic.LoadUint32", "(*internal/sync.Mutex).Lock", "internal/race.Disable", "sync/atomic.CompareAndSwapInt32", "internal/race.Enable", "internal/race.Acquire", "(*internal/sync.Mutex).lockSlow", "internal/sync.runtime_canSpin", "internal/sync.runtime_doSpin", "internal/sync.throw", "internal/sync.runtime_nanotime", "internal/sync.runtime_SemacquireMutex", "sync/atomic.AddInt32", "(*internal/sync.Mutex).Unlock", "internal/race.ReleaseMerge", "(*internal/sync.Mutex).unlockSlow", "internal/sync.fatal", "internal/sync.runtime_Semrelease", "sync/atomic.StoreUint32"], unfollowed := true, recurses := true, named := ["palfrey/blake.initial", "palfrey/field.prime"], plainKeys := false, apart := false, laid := [("palfrey/field.prime", laid_palfrey_field_prime), ("palfrey/blake.initial", laid_palfrey_blake_initial)] }
def FrameWaysSaid : Prop := frameWaysRow.holds Tryz.pinned (OpenSpec.ofChange frameWaysSpec)

/-- ITS FALSE NEIGHBOUR: 'it returns false'. Refute it at one input. -/
def frameWaysWrong : ChangeSpec := { name := "frameWays", fn := fun _ => fun
  | [d1, d2, d3] => { results := [.lit (.bool false)], args := [d1, d2, d3] }
  | _ => none }
def FrameWaysWrongFalsely : Prop := frameWaysRow.holds Tryz.pinned (OpenSpec.ofChange frameWaysWrong)

/- THE SECOND FORM. 'bulk': how many values and letters a reading holds, each counted each time it is reached (what is shared counts as often as it is met; a slice's spare places count too). A statement '..UptoSaid' is the law's where the arguments, and the package variables that the reading takes, are together of bulk at most 1048576: NARROWER than '..Said'. Prove '..Said' where nothing that the law and all that it calls make is longer than what came in: it says more and counts as full. Else prove '..UptoSaid'. A law counts once. -/
mutual
def uptoBulk {H : Type} : DataW H → Nat
  | .lit (.string bytes) => bytes.length + 1
  | .lit _ => 1
  | .nil => 1
  | .ptr d => uptoBulk d + 1
  | .slice elems spare => uptoBulkAll elems + uptoBulkAll spare + 1
  | .agg parts => uptoBulkAll parts + 1
  | .iface _ d => uptoBulk d + 1
  | .map entries => uptoBulkEntries entries + 1
  | .held _ => 1
def uptoBulkAll {H : Type} : List (DataW H) → Nat
  | [] => 0
  | d :: r => uptoBulk d + uptoBulkAll r
def uptoBulkEntries {H : Type} : List (Lit × DataW H) → Nat
  | [] => 0
  | x :: r => uptoBulkEntry x + uptoBulkEntries r
def uptoBulkEntry {H : Type} : Lit × DataW H → Nat
  | (.string bytes, d) => bytes.length + uptoBulk d + 1
  | (_, d) => uptoBulk d + 1
 end
def uptoSmall : (H : Type) → List (DataW H) → Bool := fun _ ds => decide (uptoBulkAll ds ≤ 1048576)
def OpenSpec.upto (s : _root_.Go.ChangeSpec) : _root_.Go.OpenSpec := { _root_.Go.OpenSpec.ofChange s with cond := some uptoSmall }

/-- 'palfreylaw13.RatchetPlays', WHERE WHAT IT READS IS OF BULK AT MOST 1048576: true; the input reads as it did. -/
def ratchetPlaysUptoRow : OpenClaim := { program := "ytakpgbaijkhpmaagreatdoor", sum := "02b8e36b5c51b3b8ea38c42bd58c6acd7894625e587c8e27631afc7fc1a09a08", func := "palfrey/palfreylaw13.RatchetPlays", spec := "ratchetPlays", inPlace := ["sync/atomic.LoadUint32", "(*internal/sync.Mutex).Lock", "internal/race.Disable", "sync/atomic.CompareAndSwapInt32", "internal/race.Enable", "internal/race.Acquire", "(*internal/sync.Mutex).lockSlow", "internal/sync.runtime_canSpin", "internal/sync.runtime_doSpin", "internal/sync.throw", "internal/sync.runtime_nanotime", "internal/sync.runtime_SemacquireMutex", "sync/atomic.AddInt32", "(*internal/sync.Mutex).Unlock", "internal/race.ReleaseMerge", "(*internal/sync.Mutex).unlockSlow", "internal/sync.fatal", "internal/sync.runtime_Semrelease", "sync/atomic.StoreUint32"], unfollowed := true, recurses := true, named := ["palfrey/blake.initial", "palfrey/field.prime"], plainKeys := false, apart := false, laid := [("palfrey/field.prime", laid_palfrey_field_prime), ("palfrey/blake.initial", laid_palfrey_blake_initial)], narrowed := true }
def RatchetPlaysUptoSaid : Prop := ratchetPlaysUptoRow.holds Tryz.pinned (OpenSpec.upto ratchetPlaysSpec)

/-- 'palfreylaw13.RatchetHeads', WHERE WHAT IT READS IS OF BULK AT MOST 1048576: true; the input reads as it did. -/
def ratchetHeadsUptoRow : OpenClaim := { program := "ytakpgbaijkhpmaagreatdoor", sum := "02b8e36b5c51b3b8ea38c42bd58c6acd7894625e587c8e27631afc7fc1a09a08", func := "palfrey/palfreylaw13.RatchetHeads", spec := "ratchetHeads", inPlace := ["sync/atomic.LoadUint32", "(*internal/sync.Mutex).Lock", "internal/race.Disable", "sync/atomic.CompareAndSwapInt32", "internal/race.Enable", "internal/race.Acquire", "(*internal/sync.Mutex).lockSlow", "internal/sync.runtime_canSpin", "internal/sync.runtime_doSpin", "internal/sync.throw", "internal/sync.runtime_nanotime", "internal/sync.runtime_SemacquireMutex", "sync/atomic.AddInt32", "(*internal/sync.Mutex).Unlock", "internal/race.ReleaseMerge", "(*internal/sync.Mutex).unlockSlow", "internal/sync.fatal", "internal/sync.runtime_Semrelease", "sync/atomic.StoreUint32"], unfollowed := true, recurses := true, named := ["palfrey/blake.initial", "palfrey/field.prime"], plainKeys := false, apart := false, laid := [("palfrey/field.prime", laid_palfrey_field_prime), ("palfrey/blake.initial", laid_palfrey_blake_initial)], narrowed := true }
def RatchetHeadsUptoSaid : Prop := ratchetHeadsUptoRow.holds Tryz.pinned (OpenSpec.upto ratchetHeadsSpec)

/-- 'palfreylaw13.RatchetOrder', WHERE WHAT IT READS IS OF BULK AT MOST 1048576: true; the input reads as it did. -/
def ratchetOrderUptoRow : OpenClaim := { program := "ytakpgbaijkhpmaagreatdoor", sum := "02b8e36b5c51b3b8ea38c42bd58c6acd7894625e587c8e27631afc7fc1a09a08", func := "palfrey/palfreylaw13.RatchetOrder", spec := "ratchetOrder", inPlace := ["sync/atomic.LoadUint32", "(*internal/sync.Mutex).Lock", "internal/race.Disable", "sync/atomic.CompareAndSwapInt32", "internal/race.Enable", "internal/race.Acquire", "(*internal/sync.Mutex).lockSlow", "internal/sync.runtime_canSpin", "internal/sync.runtime_doSpin", "internal/sync.throw", "internal/sync.runtime_nanotime", "internal/sync.runtime_SemacquireMutex", "sync/atomic.AddInt32", "(*internal/sync.Mutex).Unlock", "internal/race.ReleaseMerge", "(*internal/sync.Mutex).unlockSlow", "internal/sync.fatal", "internal/sync.runtime_Semrelease", "sync/atomic.StoreUint32"], unfollowed := true, recurses := true, named := ["palfrey/blake.initial", "palfrey/field.prime"], plainKeys := false, apart := false, laid := [("palfrey/field.prime", laid_palfrey_field_prime), ("palfrey/blake.initial", laid_palfrey_blake_initial)], narrowed := true }
def RatchetOrderUptoSaid : Prop := ratchetOrderUptoRow.holds Tryz.pinned (OpenSpec.upto ratchetOrderSpec)

/-- 'palfreylaw13.RatchetLate', WHERE WHAT IT READS IS OF BULK AT MOST 1048576: true; the input reads as it did. -/
def ratchetLateUptoRow : OpenClaim := { program := "ytakpgbaijkhpmaagreatdoor", sum := "02b8e36b5c51b3b8ea38c42bd58c6acd7894625e587c8e27631afc7fc1a09a08", func := "palfrey/palfreylaw13.RatchetLate", spec := "ratchetLate", inPlace := ["sync/atomic.LoadUint32", "(*internal/sync.Mutex).Lock", "internal/race.Disable", "sync/atomic.CompareAndSwapInt32", "internal/race.Enable", "internal/race.Acquire", "(*internal/sync.Mutex).lockSlow", "internal/sync.runtime_canSpin", "internal/sync.runtime_doSpin", "internal/sync.throw", "internal/sync.runtime_nanotime", "internal/sync.runtime_SemacquireMutex", "sync/atomic.AddInt32", "(*internal/sync.Mutex).Unlock", "internal/race.ReleaseMerge", "(*internal/sync.Mutex).unlockSlow", "internal/sync.fatal", "internal/sync.runtime_Semrelease", "sync/atomic.StoreUint32"], unfollowed := true, recurses := true, named := ["palfrey/blake.initial", "palfrey/field.prime"], plainKeys := false, apart := false, laid := [("palfrey/field.prime", laid_palfrey_field_prime), ("palfrey/blake.initial", laid_palfrey_blake_initial)], narrowed := true }
def RatchetLateUptoSaid : Prop := ratchetLateUptoRow.holds Tryz.pinned (OpenSpec.upto ratchetLateSpec)

/-- 'palfreylaw13.RatchetSpoilt', WHERE WHAT IT READS IS OF BULK AT MOST 1048576: true; the input reads as it did. -/
def ratchetSpoiltUptoRow : OpenClaim := { program := "ytakpgbaijkhpmaagreatdoor", sum := "02b8e36b5c51b3b8ea38c42bd58c6acd7894625e587c8e27631afc7fc1a09a08", func := "palfrey/palfreylaw13.RatchetSpoilt", spec := "ratchetSpoilt", inPlace := ["sync/atomic.LoadUint32", "(*internal/sync.Mutex).Lock", "internal/race.Disable", "sync/atomic.CompareAndSwapInt32", "internal/race.Enable", "internal/race.Acquire", "(*internal/sync.Mutex).lockSlow", "internal/sync.runtime_canSpin", "internal/sync.runtime_doSpin", "internal/sync.throw", "internal/sync.runtime_nanotime", "internal/sync.runtime_SemacquireMutex", "sync/atomic.AddInt32", "(*internal/sync.Mutex).Unlock", "internal/race.ReleaseMerge", "(*internal/sync.Mutex).unlockSlow", "internal/sync.fatal", "internal/sync.runtime_Semrelease", "sync/atomic.StoreUint32"], unfollowed := true, recurses := true, named := ["palfrey/blake.initial", "palfrey/field.prime"], plainKeys := false, apart := false, laid := [("palfrey/field.prime", laid_palfrey_field_prime), ("palfrey/blake.initial", laid_palfrey_blake_initial)], narrowed := true }
def RatchetSpoiltUptoSaid : Prop := ratchetSpoiltUptoRow.holds Tryz.pinned (OpenSpec.upto ratchetSpoiltSpec)

/-- 'palfreylaw13.RatchetSkips', WHERE WHAT IT READS IS OF BULK AT MOST 1048576: true; the input reads as it did. -/
def ratchetSkipsUptoRow : OpenClaim := { program := "ytakpgbaijkhpmaagreatdoor", sum := "02b8e36b5c51b3b8ea38c42bd58c6acd7894625e587c8e27631afc7fc1a09a08", func := "palfrey/palfreylaw13.RatchetSkips", spec := "ratchetSkips", inPlace := ["sync/atomic.LoadUint32", "(*internal/sync.Mutex).Lock", "internal/race.Disable", "sync/atomic.CompareAndSwapInt32", "internal/race.Enable", "internal/race.Acquire", "(*internal/sync.Mutex).lockSlow", "internal/sync.runtime_canSpin", "internal/sync.runtime_doSpin", "internal/sync.throw", "internal/sync.runtime_nanotime", "internal/sync.runtime_SemacquireMutex", "sync/atomic.AddInt32", "(*internal/sync.Mutex).Unlock", "internal/race.ReleaseMerge", "(*internal/sync.Mutex).unlockSlow", "internal/sync.fatal", "internal/sync.runtime_Semrelease", "sync/atomic.StoreUint32"], unfollowed := true, recurses := true, named := ["palfrey/blake.initial", "palfrey/field.prime"], plainKeys := false, apart := false, laid := [("palfrey/field.prime", laid_palfrey_field_prime), ("palfrey/blake.initial", laid_palfrey_blake_initial)], narrowed := true }
def RatchetSkipsUptoSaid : Prop := ratchetSkipsUptoRow.holds Tryz.pinned (OpenSpec.upto ratchetSkipsSpec)

/-- 'palfreylaw13.RatchetTurns', WHERE WHAT IT READS IS OF BULK AT MOST 1048576: true; the input reads as it did. -/
def ratchetTurnsUptoRow : OpenClaim := { program := "ytakpgbaijkhpmaagreatdoor", sum := "02b8e36b5c51b3b8ea38c42bd58c6acd7894625e587c8e27631afc7fc1a09a08", func := "palfrey/palfreylaw13.RatchetTurns", spec := "ratchetTurns", inPlace := ["sync/atomic.LoadUint32", "(*internal/sync.Mutex).Lock", "internal/race.Disable", "sync/atomic.CompareAndSwapInt32", "internal/race.Enable", "internal/race.Acquire", "(*internal/sync.Mutex).lockSlow", "internal/sync.runtime_canSpin", "internal/sync.runtime_doSpin", "internal/sync.throw", "internal/sync.runtime_nanotime", "internal/sync.runtime_SemacquireMutex", "sync/atomic.AddInt32", "(*internal/sync.Mutex).Unlock", "internal/race.ReleaseMerge", "(*internal/sync.Mutex).unlockSlow", "internal/sync.fatal", "internal/sync.runtime_Semrelease", "sync/atomic.StoreUint32"], unfollowed := true, recurses := true, named := ["palfrey/blake.initial", "palfrey/field.prime"], plainKeys := false, apart := false, laid := [("palfrey/field.prime", laid_palfrey_field_prime), ("palfrey/blake.initial", laid_palfrey_blake_initial)], narrowed := true }
def RatchetTurnsUptoSaid : Prop := ratchetTurnsUptoRow.holds Tryz.pinned (OpenSpec.upto ratchetTurnsSpec)

/-- 'palfreylaw15.FramePlays', WHERE WHAT IT READS IS OF BULK AT MOST 1048576: true; the input reads as it did. -/
def framePlaysUptoRow : OpenClaim := { program := "ytakpgbaijkhpmaagreatdoor", sum := "02b8e36b5c51b3b8ea38c42bd58c6acd7894625e587c8e27631afc7fc1a09a08", func := "palfrey/palfreylaw15.FramePlays", spec := "framePlays", inPlace := ["sync/atomic.LoadUint32", "(*internal/sync.Mutex).Lock", "internal/race.Disable", "sync/atomic.CompareAndSwapInt32", "internal/race.Enable", "internal/race.Acquire", "(*internal/sync.Mutex).lockSlow", "internal/sync.runtime_canSpin", "internal/sync.runtime_doSpin", "internal/sync.throw", "internal/sync.runtime_nanotime", "internal/sync.runtime_SemacquireMutex", "sync/atomic.AddInt32", "(*internal/sync.Mutex).Unlock", "internal/race.ReleaseMerge", "(*internal/sync.Mutex).unlockSlow", "internal/sync.fatal", "internal/sync.runtime_Semrelease", "sync/atomic.StoreUint32"], unfollowed := true, recurses := true, named := ["palfrey/blake.initial", "palfrey/field.prime"], plainKeys := false, apart := false, laid := [("palfrey/field.prime", laid_palfrey_field_prime), ("palfrey/blake.initial", laid_palfrey_blake_initial)], narrowed := true }
def FramePlaysUptoSaid : Prop := framePlaysUptoRow.holds Tryz.pinned (OpenSpec.upto framePlaysSpec)

/-- 'palfreylaw15.FrameLines', WHERE WHAT IT READS IS OF BULK AT MOST 1048576: true; the input reads as it did. -/
def frameLinesUptoRow : OpenClaim := { program := "ytakpgbaijkhpmaagreatdoor", sum := "02b8e36b5c51b3b8ea38c42bd58c6acd7894625e587c8e27631afc7fc1a09a08", func := "palfrey/palfreylaw15.FrameLines", spec := "frameLines", inPlace := ["sync/atomic.LoadUint32", "(*internal/sync.Mutex).Lock", "internal/race.Disable", "sync/atomic.CompareAndSwapInt32", "internal/race.Enable", "internal/race.Acquire", "(*internal/sync.Mutex).lockSlow", "internal/sync.runtime_canSpin", "internal/sync.runtime_doSpin", "internal/sync.throw", "internal/sync.runtime_nanotime", "internal/sync.runtime_SemacquireMutex", "sync/atomic.AddInt32", "(*internal/sync.Mutex).Unlock", "internal/race.ReleaseMerge", "(*internal/sync.Mutex).unlockSlow", "internal/sync.fatal", "internal/sync.runtime_Semrelease", "sync/atomic.StoreUint32"], unfollowed := true, recurses := true, named := ["palfrey/blake.initial", "palfrey/field.prime"], plainKeys := false, apart := false, laid := [("palfrey/field.prime", laid_palfrey_field_prime), ("palfrey/blake.initial", laid_palfrey_blake_initial)], narrowed := true }
def FrameLinesUptoSaid : Prop := frameLinesUptoRow.holds Tryz.pinned (OpenSpec.upto frameLinesSpec)

/-- 'palfreylaw15.FrameOpens', WHERE WHAT IT READS IS OF BULK AT MOST 1048576: true; the input reads as it did. -/
def frameOpensUptoRow : OpenClaim := { program := "ytakpgbaijkhpmaagreatdoor", sum := "02b8e36b5c51b3b8ea38c42bd58c6acd7894625e587c8e27631afc7fc1a09a08", func := "palfrey/palfreylaw15.FrameOpens", spec := "frameOpens", inPlace := ["sync/atomic.LoadUint32", "(*internal/sync.Mutex).Lock", "internal/race.Disable", "sync/atomic.CompareAndSwapInt32", "internal/race.Enable", "internal/race.Acquire", "(*internal/sync.Mutex).lockSlow", "internal/sync.runtime_canSpin", "internal/sync.runtime_doSpin", "internal/sync.throw", "internal/sync.runtime_nanotime", "internal/sync.runtime_SemacquireMutex", "sync/atomic.AddInt32", "(*internal/sync.Mutex).Unlock", "internal/race.ReleaseMerge", "(*internal/sync.Mutex).unlockSlow", "internal/sync.fatal", "internal/sync.runtime_Semrelease", "sync/atomic.StoreUint32"], unfollowed := true, recurses := true, named := ["palfrey/blake.initial", "palfrey/field.prime"], plainKeys := false, apart := false, laid := [("palfrey/field.prime", laid_palfrey_field_prime), ("palfrey/blake.initial", laid_palfrey_blake_initial)], narrowed := true }
def FrameOpensUptoSaid : Prop := frameOpensUptoRow.holds Tryz.pinned (OpenSpec.upto frameOpensSpec)

/-- 'palfreylaw15.FrameOrder', WHERE WHAT IT READS IS OF BULK AT MOST 1048576: true; the input reads as it did. -/
def frameOrderUptoRow : OpenClaim := { program := "ytakpgbaijkhpmaagreatdoor", sum := "02b8e36b5c51b3b8ea38c42bd58c6acd7894625e587c8e27631afc7fc1a09a08", func := "palfrey/palfreylaw15.FrameOrder", spec := "frameOrder", inPlace := ["sync/atomic.LoadUint32", "(*internal/sync.Mutex).Lock", "internal/race.Disable", "sync/atomic.CompareAndSwapInt32", "internal/race.Enable", "internal/race.Acquire", "(*internal/sync.Mutex).lockSlow", "internal/sync.runtime_canSpin", "internal/sync.runtime_doSpin", "internal/sync.throw", "internal/sync.runtime_nanotime", "internal/sync.runtime_SemacquireMutex", "sync/atomic.AddInt32", "(*internal/sync.Mutex).Unlock", "internal/race.ReleaseMerge", "(*internal/sync.Mutex).unlockSlow", "internal/sync.fatal", "internal/sync.runtime_Semrelease", "sync/atomic.StoreUint32"], unfollowed := true, recurses := true, named := ["palfrey/blake.initial", "palfrey/field.prime"], plainKeys := false, apart := false, laid := [("palfrey/field.prime", laid_palfrey_field_prime), ("palfrey/blake.initial", laid_palfrey_blake_initial)], narrowed := true }
def FrameOrderUptoSaid : Prop := frameOrderUptoRow.holds Tryz.pinned (OpenSpec.upto frameOrderSpec)

/-- 'palfreylaw15.FrameWays', WHERE WHAT IT READS IS OF BULK AT MOST 1048576: true; the input reads as it did. -/
def frameWaysUptoRow : OpenClaim := { program := "ytakpgbaijkhpmaagreatdoor", sum := "02b8e36b5c51b3b8ea38c42bd58c6acd7894625e587c8e27631afc7fc1a09a08", func := "palfrey/palfreylaw15.FrameWays", spec := "frameWays", inPlace := ["sync/atomic.LoadUint32", "(*internal/sync.Mutex).Lock", "internal/race.Disable", "sync/atomic.CompareAndSwapInt32", "internal/race.Enable", "internal/race.Acquire", "(*internal/sync.Mutex).lockSlow", "internal/sync.runtime_canSpin", "internal/sync.runtime_doSpin", "internal/sync.throw", "internal/sync.runtime_nanotime", "internal/sync.runtime_SemacquireMutex", "sync/atomic.AddInt32", "(*internal/sync.Mutex).Unlock", "internal/race.ReleaseMerge", "(*internal/sync.Mutex).unlockSlow", "internal/sync.fatal", "internal/sync.runtime_Semrelease", "sync/atomic.StoreUint32"], unfollowed := true, recurses := true, named := ["palfrey/blake.initial", "palfrey/field.prime"], plainKeys := false, apart := false, laid := [("palfrey/field.prime", laid_palfrey_field_prime), ("palfrey/blake.initial", laid_palfrey_blake_initial)], narrowed := true }
def FrameWaysUptoSaid : Prop := frameWaysUptoRow.holds Tryz.pinned (OpenSpec.upto frameWaysSpec)

end Rows
end Go.Proofs.YtakpgbaijkhpmaaGreatDoor
