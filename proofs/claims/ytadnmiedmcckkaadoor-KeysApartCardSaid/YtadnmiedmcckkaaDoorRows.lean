/-
  NARROWER THAN 'FOR EVERY INPUT', by the rows' own cells (each row's printed sentence says how): CurveMults: laid · CurveCommon: laid · CurveThree: laid · CurveBits: laid · CurveNumbers: laid · KeysPairs: laid · KeysSource: laid · KeysCommon: laid · KeysAgain: laid · KeysApart: laid.
  DERIVED. THE GIVEN ROWS OF THIS SEAT. 10 by the template 'for every input the law returns true; each argument reads behind the call as it read before'; 0 by the template 'total and deterministic' (their statements: YtadnmiedmcckkaaDoorTotals.lean).
  GIVEN WITH THE SEED: the statements are not yours to turn. If you find one false, say at which input.
  Laid BY PROGRAM, IN A SANDBOX (cutbox-rows.mjs): the forced cells as the released guide's own fill.sh prints them over the translation 5b65ca005f296487… (all of the seat's roots in one cut). By AI agents, Wed Nov 11 2026. No macro, syntax, notation, axiom, sorry.
-/
import Derived.Test.YtadnmiedmcckkaaDoorChecked
import GoSem.Claim
import GoSem.ClaimJoined
import GoSem.ClaimMapViews
import Derived.JoinedTies
import Derived.KernelRfl
namespace Go.Proofs.YtadnmiedmcckkaaDoor
/- THE CELL 'sum', in the pinned program and in every row, IS THE sha256 OF THE DUMP (.gsa) THAT YtadnmiedmcckkaaDoorProg.lean LOADS. Nothing in Lean hashes anything: it is a label: what it is worth is what the hold of that sum in a sandbox is worth. -/
noncomputable def Tryd.pinned : Pinned := { name := "ytadnmiedmcckkaadoor", sum := "5b65ca005f296487ebcbe8f126f77590bb74b93c7a8c70243f547472d383c8b4", checked := Tryd.checked }
namespace Rows
def none {H : Type} : Left H := { results := [], args := [] }

/- WHAT THE LISTED PACKAGE-LEVEL VARIABLES READ AS WHEN THE CALL BEGINS. Each datum BY PROGRAM (the guide's laid-datum.mjs) off the statement by which the dump's own 'gosem.cut.vars' lays the variable. In a bare row this is a premise. The card (YtadnmiedmcckkaaDoorCards.lean) ties it to the program's text. -/
def laid_palfrey_field_prime {H : Type} : DataW H := .agg [.lit (.int .u32 4294967277), .lit (.int .u32 4294967295), .lit (.int .u32 4294967295), .lit (.int .u32 4294967295), .lit (.int .u32 4294967295), .lit (.int .u32 4294967295), .lit (.int .u32 4294967295), .lit (.int .u32 2147483647)]
def laid_palfrey_blake_initial {H : Type} : DataW H := .agg [.lit (.int .u32 1779033703), .lit (.int .u32 3144134277), .lit (.int .u32 1013904242), .lit (.int .u32 2773480762), .lit (.int .u32 1359893119), .lit (.int .u32 2600822924), .lit (.int .u32 528734635), .lit (.int .u32 1541459225)]

/-- 'palfreylaw07.CurveMults': WHATEVER THE INPUT: true; the input reads as it did. -/
def curveMultsSpec : ChangeSpec := { name := "curveMults", fn := fun _ => fun
  | [d1, d2] => { results := [.lit (.bool true)], args := [d1, d2] }
  | _ => none }
def curveMultsRow : OpenClaim := { program := "ytadnmiedmcckkaadoor", sum := "5b65ca005f296487ebcbe8f126f77590bb74b93c7a8c70243f547472d383c8b4", func := "palfrey/palfreylaw07.CurveMults", spec := "curveMults", unfollowed := true, recurses := true, named := ["palfrey/field.prime"], apart := false, laid := [("palfrey/field.prime", laid_palfrey_field_prime)] }
def CurveMultsSaid : Prop := curveMultsRow.holds Tryd.pinned (OpenSpec.ofChange curveMultsSpec)

/-- ITS FALSE NEIGHBOUR: 'it returns false'. Refute it at one input. -/
def curveMultsWrong : ChangeSpec := { name := "curveMults", fn := fun _ => fun
  | [d1, d2] => { results := [.lit (.bool false)], args := [d1, d2] }
  | _ => none }
def CurveMultsWrongFalsely : Prop := curveMultsRow.holds Tryd.pinned (OpenSpec.ofChange curveMultsWrong)

/-- 'palfreylaw07.CurveCommon': WHATEVER THE INPUT: true; the input reads as it did. -/
def curveCommonSpec : ChangeSpec := { name := "curveCommon", fn := fun _ => fun
  | [d1, d2] => { results := [.lit (.bool true)], args := [d1, d2] }
  | _ => none }
def curveCommonRow : OpenClaim := { program := "ytadnmiedmcckkaadoor", sum := "5b65ca005f296487ebcbe8f126f77590bb74b93c7a8c70243f547472d383c8b4", func := "palfrey/palfreylaw07.CurveCommon", spec := "curveCommon", unfollowed := true, recurses := true, named := ["palfrey/field.prime"], apart := false, laid := [("palfrey/field.prime", laid_palfrey_field_prime)] }
def CurveCommonSaid : Prop := curveCommonRow.holds Tryd.pinned (OpenSpec.ofChange curveCommonSpec)

/-- ITS FALSE NEIGHBOUR: 'it returns false'. Refute it at one input. -/
def curveCommonWrong : ChangeSpec := { name := "curveCommon", fn := fun _ => fun
  | [d1, d2] => { results := [.lit (.bool false)], args := [d1, d2] }
  | _ => none }
def CurveCommonWrongFalsely : Prop := curveCommonRow.holds Tryd.pinned (OpenSpec.ofChange curveCommonWrong)

/-- 'palfreylaw07.CurveThree': WHATEVER THE INPUT: true; the input reads as it did. -/
def curveThreeSpec : ChangeSpec := { name := "curveThree", fn := fun _ => fun
  | [d1, d2, d3] => { results := [.lit (.bool true)], args := [d1, d2, d3] }
  | _ => none }
def curveThreeRow : OpenClaim := { program := "ytadnmiedmcckkaadoor", sum := "5b65ca005f296487ebcbe8f126f77590bb74b93c7a8c70243f547472d383c8b4", func := "palfrey/palfreylaw07.CurveThree", spec := "curveThree", unfollowed := true, recurses := true, named := ["palfrey/field.prime"], apart := false, laid := [("palfrey/field.prime", laid_palfrey_field_prime)] }
def CurveThreeSaid : Prop := curveThreeRow.holds Tryd.pinned (OpenSpec.ofChange curveThreeSpec)

/-- ITS FALSE NEIGHBOUR: 'it returns false'. Refute it at one input. -/
def curveThreeWrong : ChangeSpec := { name := "curveThree", fn := fun _ => fun
  | [d1, d2, d3] => { results := [.lit (.bool false)], args := [d1, d2, d3] }
  | _ => none }
def CurveThreeWrongFalsely : Prop := curveThreeRow.holds Tryd.pinned (OpenSpec.ofChange curveThreeWrong)

/-- 'palfreylaw07.CurveBits': WHATEVER THE INPUT: true; the input reads as it did. -/
def curveBitsSpec : ChangeSpec := { name := "curveBits", fn := fun _ => fun
  | [d1, d2, d3] => { results := [.lit (.bool true)], args := [d1, d2, d3] }
  | _ => none }
def curveBitsRow : OpenClaim := { program := "ytadnmiedmcckkaadoor", sum := "5b65ca005f296487ebcbe8f126f77590bb74b93c7a8c70243f547472d383c8b4", func := "palfrey/palfreylaw07.CurveBits", spec := "curveBits", unfollowed := true, recurses := true, named := ["palfrey/field.prime"], apart := false, laid := [("palfrey/field.prime", laid_palfrey_field_prime)] }
def CurveBitsSaid : Prop := curveBitsRow.holds Tryd.pinned (OpenSpec.ofChange curveBitsSpec)

/-- ITS FALSE NEIGHBOUR: 'it returns false'. Refute it at one input. -/
def curveBitsWrong : ChangeSpec := { name := "curveBits", fn := fun _ => fun
  | [d1, d2, d3] => { results := [.lit (.bool false)], args := [d1, d2, d3] }
  | _ => none }
def CurveBitsWrongFalsely : Prop := curveBitsRow.holds Tryd.pinned (OpenSpec.ofChange curveBitsWrong)

/-- 'palfreylaw07.CurveNumbers': WHATEVER THE INPUT: true; the input reads as it did. -/
def curveNumbersSpec : ChangeSpec := { name := "curveNumbers", fn := fun _ => fun
  | [d1, d2] => { results := [.lit (.bool true)], args := [d1, d2] }
  | _ => none }
def curveNumbersRow : OpenClaim := { program := "ytadnmiedmcckkaadoor", sum := "5b65ca005f296487ebcbe8f126f77590bb74b93c7a8c70243f547472d383c8b4", func := "palfrey/palfreylaw07.CurveNumbers", spec := "curveNumbers", unfollowed := true, recurses := true, named := ["palfrey/field.prime"], apart := false, laid := [("palfrey/field.prime", laid_palfrey_field_prime)] }
def CurveNumbersSaid : Prop := curveNumbersRow.holds Tryd.pinned (OpenSpec.ofChange curveNumbersSpec)

/-- ITS FALSE NEIGHBOUR: 'it returns false'. Refute it at one input. -/
def curveNumbersWrong : ChangeSpec := { name := "curveNumbers", fn := fun _ => fun
  | [d1, d2] => { results := [.lit (.bool false)], args := [d1, d2] }
  | _ => none }
def CurveNumbersWrongFalsely : Prop := curveNumbersRow.holds Tryd.pinned (OpenSpec.ofChange curveNumbersWrong)

/-- 'palfreylaw08.KeysPairs': WHATEVER THE INPUT: true; the input reads as it did. -/
def keysPairsSpec : ChangeSpec := { name := "keysPairs", fn := fun _ => fun
  | [d1, d2, d3] => { results := [.lit (.bool true)], args := [d1, d2, d3] }
  | _ => none }
def keysPairsRow : OpenClaim := { program := "ytadnmiedmcckkaadoor", sum := "5b65ca005f296487ebcbe8f126f77590bb74b93c7a8c70243f547472d383c8b4", func := "palfrey/palfreylaw08.KeysPairs", spec := "keysPairs", inPlace := ["sync/atomic.LoadUint32", "(*internal/sync.Mutex).Lock", "internal/race.Disable", "sync/atomic.CompareAndSwapInt32", "internal/race.Enable", "internal/race.Acquire", "(*internal/sync.Mutex).lockSlow", "internal/sync.runtime_canSpin", "internal/sync.runtime_doSpin", "internal/sync.throw", "internal/sync.runtime_nanotime", "internal/sync.runtime_SemacquireMutex", "sync/atomic.AddInt32", "(*internal/sync.Mutex).Unlock", "internal/race.ReleaseMerge", "(*internal/sync.Mutex).unlockSlow", "internal/sync.fatal", "internal/sync.runtime_Semrelease", "sync/atomic.StoreUint32"], unfollowed := true, recurses := true, named := ["palfrey/blake.initial", "palfrey/field.prime"], apart := false, laid := [("palfrey/field.prime", laid_palfrey_field_prime), ("palfrey/blake.initial", laid_palfrey_blake_initial)] }
def KeysPairsSaid : Prop := keysPairsRow.holds Tryd.pinned (OpenSpec.ofChange keysPairsSpec)

/-- ITS FALSE NEIGHBOUR: 'it returns false'. Refute it at one input. -/
def keysPairsWrong : ChangeSpec := { name := "keysPairs", fn := fun _ => fun
  | [d1, d2, d3] => { results := [.lit (.bool false)], args := [d1, d2, d3] }
  | _ => none }
def KeysPairsWrongFalsely : Prop := keysPairsRow.holds Tryd.pinned (OpenSpec.ofChange keysPairsWrong)

/-- 'palfreylaw08.KeysSource': WHATEVER THE INPUT: true; the input reads as it did. -/
def keysSourceSpec : ChangeSpec := { name := "keysSource", fn := fun _ => fun
  | [d1, d2] => { results := [.lit (.bool true)], args := [d1, d2] }
  | _ => none }
def keysSourceRow : OpenClaim := { program := "ytadnmiedmcckkaadoor", sum := "5b65ca005f296487ebcbe8f126f77590bb74b93c7a8c70243f547472d383c8b4", func := "palfrey/palfreylaw08.KeysSource", spec := "keysSource", inPlace := ["sync/atomic.LoadUint32", "(*internal/sync.Mutex).Lock", "internal/race.Disable", "sync/atomic.CompareAndSwapInt32", "internal/race.Enable", "internal/race.Acquire", "(*internal/sync.Mutex).lockSlow", "internal/sync.runtime_canSpin", "internal/sync.runtime_doSpin", "internal/sync.throw", "internal/sync.runtime_nanotime", "internal/sync.runtime_SemacquireMutex", "sync/atomic.AddInt32", "(*internal/sync.Mutex).Unlock", "internal/race.ReleaseMerge", "(*internal/sync.Mutex).unlockSlow", "internal/sync.fatal", "internal/sync.runtime_Semrelease", "sync/atomic.StoreUint32"], unfollowed := true, recurses := true, named := ["palfrey/blake.initial", "palfrey/field.prime"], apart := false, laid := [("palfrey/field.prime", laid_palfrey_field_prime), ("palfrey/blake.initial", laid_palfrey_blake_initial)] }
def KeysSourceSaid : Prop := keysSourceRow.holds Tryd.pinned (OpenSpec.ofChange keysSourceSpec)

/-- ITS FALSE NEIGHBOUR: 'it returns false'. Refute it at one input. -/
def keysSourceWrong : ChangeSpec := { name := "keysSource", fn := fun _ => fun
  | [d1, d2] => { results := [.lit (.bool false)], args := [d1, d2] }
  | _ => none }
def KeysSourceWrongFalsely : Prop := keysSourceRow.holds Tryd.pinned (OpenSpec.ofChange keysSourceWrong)

/-- 'palfreylaw08.KeysCommon': WHATEVER THE INPUT: true; the input reads as it did. -/
def keysCommonSpec : ChangeSpec := { name := "keysCommon", fn := fun _ => fun
  | [d1, d2] => { results := [.lit (.bool true)], args := [d1, d2] }
  | _ => none }
def keysCommonRow : OpenClaim := { program := "ytadnmiedmcckkaadoor", sum := "5b65ca005f296487ebcbe8f126f77590bb74b93c7a8c70243f547472d383c8b4", func := "palfrey/palfreylaw08.KeysCommon", spec := "keysCommon", inPlace := ["sync/atomic.LoadUint32", "(*internal/sync.Mutex).Lock", "internal/race.Disable", "sync/atomic.CompareAndSwapInt32", "internal/race.Enable", "internal/race.Acquire", "(*internal/sync.Mutex).lockSlow", "internal/sync.runtime_canSpin", "internal/sync.runtime_doSpin", "internal/sync.throw", "internal/sync.runtime_nanotime", "internal/sync.runtime_SemacquireMutex", "sync/atomic.AddInt32", "(*internal/sync.Mutex).Unlock", "internal/race.ReleaseMerge", "(*internal/sync.Mutex).unlockSlow", "internal/sync.fatal", "internal/sync.runtime_Semrelease", "sync/atomic.StoreUint32"], unfollowed := true, recurses := true, named := ["palfrey/blake.initial", "palfrey/field.prime"], apart := false, laid := [("palfrey/field.prime", laid_palfrey_field_prime), ("palfrey/blake.initial", laid_palfrey_blake_initial)] }
def KeysCommonSaid : Prop := keysCommonRow.holds Tryd.pinned (OpenSpec.ofChange keysCommonSpec)

/-- ITS FALSE NEIGHBOUR: 'it returns false'. Refute it at one input. -/
def keysCommonWrong : ChangeSpec := { name := "keysCommon", fn := fun _ => fun
  | [d1, d2] => { results := [.lit (.bool false)], args := [d1, d2] }
  | _ => none }
def KeysCommonWrongFalsely : Prop := keysCommonRow.holds Tryd.pinned (OpenSpec.ofChange keysCommonWrong)

/-- 'palfreylaw08.KeysAgain': WHATEVER THE INPUT: true; the input reads as it did. -/
def keysAgainSpec : ChangeSpec := { name := "keysAgain", fn := fun _ => fun
  | [d1, d2] => { results := [.lit (.bool true)], args := [d1, d2] }
  | _ => none }
def keysAgainRow : OpenClaim := { program := "ytadnmiedmcckkaadoor", sum := "5b65ca005f296487ebcbe8f126f77590bb74b93c7a8c70243f547472d383c8b4", func := "palfrey/palfreylaw08.KeysAgain", spec := "keysAgain", inPlace := ["sync/atomic.LoadUint32", "(*internal/sync.Mutex).Lock", "internal/race.Disable", "sync/atomic.CompareAndSwapInt32", "internal/race.Enable", "internal/race.Acquire", "(*internal/sync.Mutex).lockSlow", "internal/sync.runtime_canSpin", "internal/sync.runtime_doSpin", "internal/sync.throw", "internal/sync.runtime_nanotime", "internal/sync.runtime_SemacquireMutex", "sync/atomic.AddInt32", "(*internal/sync.Mutex).Unlock", "internal/race.ReleaseMerge", "(*internal/sync.Mutex).unlockSlow", "internal/sync.fatal", "internal/sync.runtime_Semrelease", "sync/atomic.StoreUint32"], unfollowed := true, recurses := true, named := ["palfrey/blake.initial", "palfrey/field.prime"], apart := false, laid := [("palfrey/field.prime", laid_palfrey_field_prime), ("palfrey/blake.initial", laid_palfrey_blake_initial)] }
def KeysAgainSaid : Prop := keysAgainRow.holds Tryd.pinned (OpenSpec.ofChange keysAgainSpec)

/-- ITS FALSE NEIGHBOUR: 'it returns false'. Refute it at one input. -/
def keysAgainWrong : ChangeSpec := { name := "keysAgain", fn := fun _ => fun
  | [d1, d2] => { results := [.lit (.bool false)], args := [d1, d2] }
  | _ => none }
def KeysAgainWrongFalsely : Prop := keysAgainRow.holds Tryd.pinned (OpenSpec.ofChange keysAgainWrong)

/-- 'palfreylaw08.KeysApart': WHATEVER THE INPUT: true; the input reads as it did. -/
def keysApartSpec : ChangeSpec := { name := "keysApart", fn := fun _ => fun
  | [d1, d2, d3] => { results := [.lit (.bool true)], args := [d1, d2, d3] }
  | _ => none }
def keysApartRow : OpenClaim := { program := "ytadnmiedmcckkaadoor", sum := "5b65ca005f296487ebcbe8f126f77590bb74b93c7a8c70243f547472d383c8b4", func := "palfrey/palfreylaw08.KeysApart", spec := "keysApart", inPlace := ["sync/atomic.LoadUint32", "(*internal/sync.Mutex).Lock", "internal/race.Disable", "sync/atomic.CompareAndSwapInt32", "internal/race.Enable", "internal/race.Acquire", "(*internal/sync.Mutex).lockSlow", "internal/sync.runtime_canSpin", "internal/sync.runtime_doSpin", "internal/sync.throw", "internal/sync.runtime_nanotime", "internal/sync.runtime_SemacquireMutex", "sync/atomic.AddInt32", "(*internal/sync.Mutex).Unlock", "internal/race.ReleaseMerge", "(*internal/sync.Mutex).unlockSlow", "internal/sync.fatal", "internal/sync.runtime_Semrelease", "sync/atomic.StoreUint32"], unfollowed := true, recurses := true, named := ["palfrey/blake.initial", "palfrey/field.prime"], apart := false, laid := [("palfrey/field.prime", laid_palfrey_field_prime), ("palfrey/blake.initial", laid_palfrey_blake_initial)] }
def KeysApartSaid : Prop := keysApartRow.holds Tryd.pinned (OpenSpec.ofChange keysApartSpec)

/-- ITS FALSE NEIGHBOUR: 'it returns false'. Refute it at one input. -/
def keysApartWrong : ChangeSpec := { name := "keysApart", fn := fun _ => fun
  | [d1, d2, d3] => { results := [.lit (.bool false)], args := [d1, d2, d3] }
  | _ => none }
def KeysApartWrongFalsely : Prop := keysApartRow.holds Tryd.pinned (OpenSpec.ofChange keysApartWrong)

/- THE SECOND FORM. 'bulk': how many values and letters a reading holds, each counted each time it is reached (what is shared counts as often as it is met; a slice's spare places count too). A statement '..UptoSaid' is the law's where the arguments, and the package variables that the reading takes, are together of bulk at most 1048576: NARROWER than '..Said'. Prove '..Said' where nothing that the law and all that it calls make is longer than what came in: it says more and counts as full. Else prove '..UptoSaid'. A law counts once. -/
mutual
def uptoBulk {H : Type} : DataW H → Nat
  | .lit (.string bytes) => bytes.length + 1
  | .lit _ => 1
  | .nil => 1
  | .ptr d => uptoBulk d + 1
  | .slice elems spare => uptoBulkAll elems + uptoBulkAll spare + 1
  | .agg parts => uptoBulkAll parts + 1
  | .iface _ d => uptoBulk d + 1
  | .map entries => uptoBulkEntries entries + 1
  | .held _ => 1
def uptoBulkAll {H : Type} : List (DataW H) → Nat
  | [] => 0
  | d :: r => uptoBulk d + uptoBulkAll r
def uptoBulkEntries {H : Type} : List (Lit × DataW H) → Nat
  | [] => 0
  | x :: r => uptoBulkEntry x + uptoBulkEntries r
def uptoBulkEntry {H : Type} : Lit × DataW H → Nat
  | (.string bytes, d) => bytes.length + uptoBulk d + 1
  | (_, d) => uptoBulk d + 1
 end
def uptoSmall : (H : Type) → List (DataW H) → Bool := fun _ ds => decide (uptoBulkAll ds ≤ 1048576)
def OpenSpec.upto (s : _root_.Go.ChangeSpec) : _root_.Go.OpenSpec := { _root_.Go.OpenSpec.ofChange s with cond := some uptoSmall }

/-- 'palfreylaw07.CurveMults', WHERE WHAT IT READS IS OF BULK AT MOST 1048576: true; the input reads as it did. -/
def curveMultsUptoRow : OpenClaim := { program := "ytadnmiedmcckkaadoor", sum := "5b65ca005f296487ebcbe8f126f77590bb74b93c7a8c70243f547472d383c8b4", func := "palfrey/palfreylaw07.CurveMults", spec := "curveMults", unfollowed := true, recurses := true, named := ["palfrey/field.prime"], apart := false, laid := [("palfrey/field.prime", laid_palfrey_field_prime)], narrowed := true }
def CurveMultsUptoSaid : Prop := curveMultsUptoRow.holds Tryd.pinned (OpenSpec.upto curveMultsSpec)

/-- 'palfreylaw07.CurveCommon', WHERE WHAT IT READS IS OF BULK AT MOST 1048576: true; the input reads as it did. -/
def curveCommonUptoRow : OpenClaim := { program := "ytadnmiedmcckkaadoor", sum := "5b65ca005f296487ebcbe8f126f77590bb74b93c7a8c70243f547472d383c8b4", func := "palfrey/palfreylaw07.CurveCommon", spec := "curveCommon", unfollowed := true, recurses := true, named := ["palfrey/field.prime"], apart := false, laid := [("palfrey/field.prime", laid_palfrey_field_prime)], narrowed := true }
def CurveCommonUptoSaid : Prop := curveCommonUptoRow.holds Tryd.pinned (OpenSpec.upto curveCommonSpec)

/-- 'palfreylaw07.CurveThree', WHERE WHAT IT READS IS OF BULK AT MOST 1048576: true; the input reads as it did. -/
def curveThreeUptoRow : OpenClaim := { program := "ytadnmiedmcckkaadoor", sum := "5b65ca005f296487ebcbe8f126f77590bb74b93c7a8c70243f547472d383c8b4", func := "palfrey/palfreylaw07.CurveThree", spec := "curveThree", unfollowed := true, recurses := true, named := ["palfrey/field.prime"], apart := false, laid := [("palfrey/field.prime", laid_palfrey_field_prime)], narrowed := true }
def CurveThreeUptoSaid : Prop := curveThreeUptoRow.holds Tryd.pinned (OpenSpec.upto curveThreeSpec)

/-- 'palfreylaw07.CurveBits', WHERE WHAT IT READS IS OF BULK AT MOST 1048576: true; the input reads as it did. -/
def curveBitsUptoRow : OpenClaim := { program := "ytadnmiedmcckkaadoor", sum := "5b65ca005f296487ebcbe8f126f77590bb74b93c7a8c70243f547472d383c8b4", func := "palfrey/palfreylaw07.CurveBits", spec := "curveBits", unfollowed := true, recurses := true, named := ["palfrey/field.prime"], apart := false, laid := [("palfrey/field.prime", laid_palfrey_field_prime)], narrowed := true }
def CurveBitsUptoSaid : Prop := curveBitsUptoRow.holds Tryd.pinned (OpenSpec.upto curveBitsSpec)

/-- 'palfreylaw07.CurveNumbers', WHERE WHAT IT READS IS OF BULK AT MOST 1048576: true; the input reads as it did. -/
def curveNumbersUptoRow : OpenClaim := { program := "ytadnmiedmcckkaadoor", sum := "5b65ca005f296487ebcbe8f126f77590bb74b93c7a8c70243f547472d383c8b4", func := "palfrey/palfreylaw07.CurveNumbers", spec := "curveNumbers", unfollowed := true, recurses := true, named := ["palfrey/field.prime"], apart := false, laid := [("palfrey/field.prime", laid_palfrey_field_prime)], narrowed := true }
def CurveNumbersUptoSaid : Prop := curveNumbersUptoRow.holds Tryd.pinned (OpenSpec.upto curveNumbersSpec)

/-- 'palfreylaw08.KeysPairs', WHERE WHAT IT READS IS OF BULK AT MOST 1048576: true; the input reads as it did. -/
def keysPairsUptoRow : OpenClaim := { program := "ytadnmiedmcckkaadoor", sum := "5b65ca005f296487ebcbe8f126f77590bb74b93c7a8c70243f547472d383c8b4", func := "palfrey/palfreylaw08.KeysPairs", spec := "keysPairs", inPlace := ["sync/atomic.LoadUint32", "(*internal/sync.Mutex).Lock", "internal/race.Disable", "sync/atomic.CompareAndSwapInt32", "internal/race.Enable", "internal/race.Acquire", "(*internal/sync.Mutex).lockSlow", "internal/sync.runtime_canSpin", "internal/sync.runtime_doSpin", "internal/sync.throw", "internal/sync.runtime_nanotime", "internal/sync.runtime_SemacquireMutex", "sync/atomic.AddInt32", "(*internal/sync.Mutex).Unlock", "internal/race.ReleaseMerge", "(*internal/sync.Mutex).unlockSlow", "internal/sync.fatal", "internal/sync.runtime_Semrelease", "sync/atomic.StoreUint32"], unfollowed := true, recurses := true, named := ["palfrey/blake.initial", "palfrey/field.prime"], apart := false, laid := [("palfrey/field.prime", laid_palfrey_field_prime), ("palfrey/blake.initial", laid_palfrey_blake_initial)], narrowed := true }
def KeysPairsUptoSaid : Prop := keysPairsUptoRow.holds Tryd.pinned (OpenSpec.upto keysPairsSpec)

/-- 'palfreylaw08.KeysSource', WHERE WHAT IT READS IS OF BULK AT MOST 1048576: true; the input reads as it did. -/
def keysSourceUptoRow : OpenClaim := { program := "ytadnmiedmcckkaadoor", sum := "5b65ca005f296487ebcbe8f126f77590bb74b93c7a8c70243f547472d383c8b4", func := "palfrey/palfreylaw08.KeysSource", spec := "keysSource", inPlace := ["sync/atomic.LoadUint32", "(*internal/sync.Mutex).Lock", "internal/race.Disable", "sync/atomic.CompareAndSwapInt32", "internal/race.Enable", "internal/race.Acquire", "(*internal/sync.Mutex).lockSlow", "internal/sync.runtime_canSpin", "internal/sync.runtime_doSpin", "internal/sync.throw", "internal/sync.runtime_nanotime", "internal/sync.runtime_SemacquireMutex", "sync/atomic.AddInt32", "(*internal/sync.Mutex).Unlock", "internal/race.ReleaseMerge", "(*internal/sync.Mutex).unlockSlow", "internal/sync.fatal", "internal/sync.runtime_Semrelease", "sync/atomic.StoreUint32"], unfollowed := true, recurses := true, named := ["palfrey/blake.initial", "palfrey/field.prime"], apart := false, laid := [("palfrey/field.prime", laid_palfrey_field_prime), ("palfrey/blake.initial", laid_palfrey_blake_initial)], narrowed := true }
def KeysSourceUptoSaid : Prop := keysSourceUptoRow.holds Tryd.pinned (OpenSpec.upto keysSourceSpec)

/-- 'palfreylaw08.KeysCommon', WHERE WHAT IT READS IS OF BULK AT MOST 1048576: true; the input reads as it did. -/
def keysCommonUptoRow : OpenClaim := { program := "ytadnmiedmcckkaadoor", sum := "5b65ca005f296487ebcbe8f126f77590bb74b93c7a8c70243f547472d383c8b4", func := "palfrey/palfreylaw08.KeysCommon", spec := "keysCommon", inPlace := ["sync/atomic.LoadUint32", "(*internal/sync.Mutex).Lock", "internal/race.Disable", "sync/atomic.CompareAndSwapInt32", "internal/race.Enable", "internal/race.Acquire", "(*internal/sync.Mutex).lockSlow", "internal/sync.runtime_canSpin", "internal/sync.runtime_doSpin", "internal/sync.throw", "internal/sync.runtime_nanotime", "internal/sync.runtime_SemacquireMutex", "sync/atomic.AddInt32", "(*internal/sync.Mutex).Unlock", "internal/race.ReleaseMerge", "(*internal/sync.Mutex).unlockSlow", "internal/sync.fatal", "internal/sync.runtime_Semrelease", "sync/atomic.StoreUint32"], unfollowed := true, recurses := true, named := ["palfrey/blake.initial", "palfrey/field.prime"], apart := false, laid := [("palfrey/field.prime", laid_palfrey_field_prime), ("palfrey/blake.initial", laid_palfrey_blake_initial)], narrowed := true }
def KeysCommonUptoSaid : Prop := keysCommonUptoRow.holds Tryd.pinned (OpenSpec.upto keysCommonSpec)

/-- 'palfreylaw08.KeysAgain', WHERE WHAT IT READS IS OF BULK AT MOST 1048576: true; the input reads as it did. -/
def keysAgainUptoRow : OpenClaim := { program := "ytadnmiedmcckkaadoor", sum := "5b65ca005f296487ebcbe8f126f77590bb74b93c7a8c70243f547472d383c8b4", func := "palfrey/palfreylaw08.KeysAgain", spec := "keysAgain", inPlace := ["sync/atomic.LoadUint32", "(*internal/sync.Mutex).Lock", "internal/race.Disable", "sync/atomic.CompareAndSwapInt32", "internal/race.Enable", "internal/race.Acquire", "(*internal/sync.Mutex).lockSlow", "internal/sync.runtime_canSpin", "internal/sync.runtime_doSpin", "internal/sync.throw", "internal/sync.runtime_nanotime", "internal/sync.runtime_SemacquireMutex", "sync/atomic.AddInt32", "(*internal/sync.Mutex).Unlock", "internal/race.ReleaseMerge", "(*internal/sync.Mutex).unlockSlow", "internal/sync.fatal", "internal/sync.runtime_Semrelease", "sync/atomic.StoreUint32"], unfollowed := true, recurses := true, named := ["palfrey/blake.initial", "palfrey/field.prime"], apart := false, laid := [("palfrey/field.prime", laid_palfrey_field_prime), ("palfrey/blake.initial", laid_palfrey_blake_initial)], narrowed := true }
def KeysAgainUptoSaid : Prop := keysAgainUptoRow.holds Tryd.pinned (OpenSpec.upto keysAgainSpec)

/-- 'palfreylaw08.KeysApart', WHERE WHAT IT READS IS OF BULK AT MOST 1048576: true; the input reads as it did. -/
def keysApartUptoRow : OpenClaim := { program := "ytadnmiedmcckkaadoor", sum := "5b65ca005f296487ebcbe8f126f77590bb74b93c7a8c70243f547472d383c8b4", func := "palfrey/palfreylaw08.KeysApart", spec := "keysApart", inPlace := ["sync/atomic.LoadUint32", "(*internal/sync.Mutex).Lock", "internal/race.Disable", "sync/atomic.CompareAndSwapInt32", "internal/race.Enable", "internal/race.Acquire", "(*internal/sync.Mutex).lockSlow", "internal/sync.runtime_canSpin", "internal/sync.runtime_doSpin", "internal/sync.throw", "internal/sync.runtime_nanotime", "internal/sync.runtime_SemacquireMutex", "sync/atomic.AddInt32", "(*internal/sync.Mutex).Unlock", "internal/race.ReleaseMerge", "(*internal/sync.Mutex).unlockSlow", "internal/sync.fatal", "internal/sync.runtime_Semrelease", "sync/atomic.StoreUint32"], unfollowed := true, recurses := true, named := ["palfrey/blake.initial", "palfrey/field.prime"], apart := false, laid := [("palfrey/field.prime", laid_palfrey_field_prime), ("palfrey/blake.initial", laid_palfrey_blake_initial)], narrowed := true }
def KeysApartUptoSaid : Prop := keysApartUptoRow.holds Tryd.pinned (OpenSpec.upto keysApartSpec)

end Rows
end Go.Proofs.YtadnmiedmcckkaaDoor
