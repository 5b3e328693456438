/-
  NARROWER THAN 'FOR EVERY INPUT', by the rows' own cells (each row's printed sentence says how): CommitOne: laid · CommitMakes: laid · CommitRows: laid · CommitPacks: laid · SealBack: laid · SealOne: laid · SealLong: laid · SealCloses: laid · SealOpens: laid · ChainParts: laid.
  DERIVED. THE GIVEN ROWS OF THIS SEAT. 10 by the template 'for every input the law returns true; each argument reads behind the call as it read before'; 0 by the template 'total and deterministic' (their statements: YthdjojindijmnaaDoorTotals.lean).
  GIVEN WITH THE SEED: the statements are not yours to turn. If you find one false, say at which input.
  Laid BY PROGRAM, IN A SANDBOX (cutbox-rows.mjs): the forced cells as the released guide's own fill.sh prints them over the translation bfba80c49ec79c9d… (all of the seat's roots in one cut). By AI agents, Wed Nov 11 2026. No macro, syntax, notation, axiom, sorry.
-/
import Derived.Test.YthdjojindijmnaaDoorChecked
import GoSem.Claim
import GoSem.ClaimJoined
import GoSem.ClaimMapViews
import Derived.JoinedTies
import Derived.KernelRfl
namespace Go.Proofs.YthdjojindijmnaaDoor
/- THE CELL 'sum', in the pinned program and in every row, IS THE sha256 OF THE DUMP (.gsa) THAT YthdjojindijmnaaDoorProg.lean LOADS. Nothing in Lean hashes anything: it is a label: what it is worth is what the hold of that sum in a sandbox is worth. -/
noncomputable def Tryd.pinned : Pinned := { name := "ythdjojindijmnaadoor", sum := "bfba80c49ec79c9d106dc41c1c8f7b8fcd8b6abfc227cc2271cb6e54e33a147a", checked := Tryd.checked }
namespace Rows
def none {H : Type} : Left H := { results := [], args := [] }

/- WHAT THE LISTED PACKAGE-LEVEL VARIABLES READ AS WHEN THE CALL BEGINS. Each datum BY PROGRAM (the guide's laid-datum.mjs) off the statement by which the dump's own 'gosem.cut.vars' lays the variable. In a bare row this is a premise. The card (YthdjojindijmnaaDoorCards.lean) ties it to the program's text. -/
def laid_palfrey_blake_initial {H : Type} : DataW H := .agg [.lit (.int .u32 1779033703), .lit (.int .u32 3144134277), .lit (.int .u32 1013904242), .lit (.int .u32 2773480762), .lit (.int .u32 1359893119), .lit (.int .u32 2600822924), .lit (.int .u32 528734635), .lit (.int .u32 1541459225)]

/-- 'palfreylaw14.CommitOne': WHATEVER THE INPUT: true; the input reads as it did. -/
def commitOneSpec : ChangeSpec := { name := "commitOne", fn := fun _ => fun
  | [d1, d2, d3] => { results := [.lit (.bool true)], args := [d1, d2, d3] }
  | _ => none }
def commitOneRow : OpenClaim := { program := "ythdjojindijmnaadoor", sum := "bfba80c49ec79c9d106dc41c1c8f7b8fcd8b6abfc227cc2271cb6e54e33a147a", func := "palfrey/palfreylaw14.CommitOne", spec := "commitOne", named := ["palfrey/blake.initial"], apart := false, laid := [("palfrey/blake.initial", laid_palfrey_blake_initial)] }
def CommitOneSaid : Prop := commitOneRow.holds Tryd.pinned (OpenSpec.ofChange commitOneSpec)

/-- ITS FALSE NEIGHBOUR: 'it returns false'. Refute it at one input. -/
def commitOneWrong : ChangeSpec := { name := "commitOne", fn := fun _ => fun
  | [d1, d2, d3] => { results := [.lit (.bool false)], args := [d1, d2, d3] }
  | _ => none }
def CommitOneWrongFalsely : Prop := commitOneRow.holds Tryd.pinned (OpenSpec.ofChange commitOneWrong)

/-- 'palfreylaw14.CommitMakes': WHATEVER THE INPUT: true; the input reads as it did. -/
def commitMakesSpec : ChangeSpec := { name := "commitMakes", fn := fun _ => fun
  | [d1, d2, d3] => { results := [.lit (.bool true)], args := [d1, d2, d3] }
  | _ => none }
def commitMakesRow : OpenClaim := { program := "ythdjojindijmnaadoor", sum := "bfba80c49ec79c9d106dc41c1c8f7b8fcd8b6abfc227cc2271cb6e54e33a147a", func := "palfrey/palfreylaw14.CommitMakes", spec := "commitMakes", named := ["palfrey/blake.initial"], apart := false, laid := [("palfrey/blake.initial", laid_palfrey_blake_initial)] }
def CommitMakesSaid : Prop := commitMakesRow.holds Tryd.pinned (OpenSpec.ofChange commitMakesSpec)

/-- ITS FALSE NEIGHBOUR: 'it returns false'. Refute it at one input. -/
def commitMakesWrong : ChangeSpec := { name := "commitMakes", fn := fun _ => fun
  | [d1, d2, d3] => { results := [.lit (.bool false)], args := [d1, d2, d3] }
  | _ => none }
def CommitMakesWrongFalsely : Prop := commitMakesRow.holds Tryd.pinned (OpenSpec.ofChange commitMakesWrong)

/-- 'palfreylaw14.CommitRows': WHATEVER THE INPUT: true; the input reads as it did. -/
def commitRowsSpec : ChangeSpec := { name := "commitRows", fn := fun _ => fun
  | [d1, d2, d3] => { results := [.lit (.bool true)], args := [d1, d2, d3] }
  | _ => none }
def commitRowsRow : OpenClaim := { program := "ythdjojindijmnaadoor", sum := "bfba80c49ec79c9d106dc41c1c8f7b8fcd8b6abfc227cc2271cb6e54e33a147a", func := "palfrey/palfreylaw14.CommitRows", spec := "commitRows", named := ["palfrey/blake.initial"], apart := false, laid := [("palfrey/blake.initial", laid_palfrey_blake_initial)] }
def CommitRowsSaid : Prop := commitRowsRow.holds Tryd.pinned (OpenSpec.ofChange commitRowsSpec)

/-- ITS FALSE NEIGHBOUR: 'it returns false'. Refute it at one input. -/
def commitRowsWrong : ChangeSpec := { name := "commitRows", fn := fun _ => fun
  | [d1, d2, d3] => { results := [.lit (.bool false)], args := [d1, d2, d3] }
  | _ => none }
def CommitRowsWrongFalsely : Prop := commitRowsRow.holds Tryd.pinned (OpenSpec.ofChange commitRowsWrong)

/-- 'palfreylaw14.CommitPacks': WHATEVER THE INPUT: true; the input reads as it did. -/
def commitPacksSpec : ChangeSpec := { name := "commitPacks", fn := fun _ => fun
  | [d1, d2, d3] => { results := [.lit (.bool true)], args := [d1, d2, d3] }
  | _ => none }
def commitPacksRow : OpenClaim := { program := "ythdjojindijmnaadoor", sum := "bfba80c49ec79c9d106dc41c1c8f7b8fcd8b6abfc227cc2271cb6e54e33a147a", func := "palfrey/palfreylaw14.CommitPacks", spec := "commitPacks", named := ["palfrey/blake.initial"], apart := false, laid := [("palfrey/blake.initial", laid_palfrey_blake_initial)] }
def CommitPacksSaid : Prop := commitPacksRow.holds Tryd.pinned (OpenSpec.ofChange commitPacksSpec)

/-- ITS FALSE NEIGHBOUR: 'it returns false'. Refute it at one input. -/
def commitPacksWrong : ChangeSpec := { name := "commitPacks", fn := fun _ => fun
  | [d1, d2, d3] => { results := [.lit (.bool false)], args := [d1, d2, d3] }
  | _ => none }
def CommitPacksWrongFalsely : Prop := commitPacksRow.holds Tryd.pinned (OpenSpec.ofChange commitPacksWrong)

/-- 'palfreylaw05.SealBack': WHATEVER THE INPUT: true; the input reads as it did. -/
def sealBackSpec : ChangeSpec := { name := "sealBack", fn := fun _ => fun
  | [d1, d2, d3] => { results := [.lit (.bool true)], args := [d1, d2, d3] }
  | _ => none }
def sealBackRow : OpenClaim := { program := "ythdjojindijmnaadoor", sum := "bfba80c49ec79c9d106dc41c1c8f7b8fcd8b6abfc227cc2271cb6e54e33a147a", func := "palfrey/palfreylaw05.SealBack", spec := "sealBack", unfollowed := true, recurses := true, named := ["palfrey/blake.initial"], apart := false, laid := [("palfrey/blake.initial", laid_palfrey_blake_initial)] }
def SealBackSaid : Prop := sealBackRow.holds Tryd.pinned (OpenSpec.ofChange sealBackSpec)

/-- ITS FALSE NEIGHBOUR: 'it returns false'. Refute it at one input. -/
def sealBackWrong : ChangeSpec := { name := "sealBack", fn := fun _ => fun
  | [d1, d2, d3] => { results := [.lit (.bool false)], args := [d1, d2, d3] }
  | _ => none }
def SealBackWrongFalsely : Prop := sealBackRow.holds Tryd.pinned (OpenSpec.ofChange sealBackWrong)

/-- 'palfreylaw05.SealOne': WHATEVER THE INPUT: true; the input reads as it did. -/
def sealOneSpec : ChangeSpec := { name := "sealOne", fn := fun _ => fun
  | [d1, d2, d3] => { results := [.lit (.bool true)], args := [d1, d2, d3] }
  | _ => none }
def sealOneRow : OpenClaim := { program := "ythdjojindijmnaadoor", sum := "bfba80c49ec79c9d106dc41c1c8f7b8fcd8b6abfc227cc2271cb6e54e33a147a", func := "palfrey/palfreylaw05.SealOne", spec := "sealOne", unfollowed := true, recurses := true, named := ["palfrey/blake.initial"], apart := false, laid := [("palfrey/blake.initial", laid_palfrey_blake_initial)] }
def SealOneSaid : Prop := sealOneRow.holds Tryd.pinned (OpenSpec.ofChange sealOneSpec)

/-- ITS FALSE NEIGHBOUR: 'it returns false'. Refute it at one input. -/
def sealOneWrong : ChangeSpec := { name := "sealOne", fn := fun _ => fun
  | [d1, d2, d3] => { results := [.lit (.bool false)], args := [d1, d2, d3] }
  | _ => none }
def SealOneWrongFalsely : Prop := sealOneRow.holds Tryd.pinned (OpenSpec.ofChange sealOneWrong)

/-- 'palfreylaw05.SealLong': WHATEVER THE INPUT: true; the input reads as it did. -/
def sealLongSpec : ChangeSpec := { name := "sealLong", fn := fun _ => fun
  | [d1, d2, d3] => { results := [.lit (.bool true)], args := [d1, d2, d3] }
  | _ => none }
def sealLongRow : OpenClaim := { program := "ythdjojindijmnaadoor", sum := "bfba80c49ec79c9d106dc41c1c8f7b8fcd8b6abfc227cc2271cb6e54e33a147a", func := "palfrey/palfreylaw05.SealLong", spec := "sealLong", unfollowed := true, recurses := true, named := ["palfrey/blake.initial"], apart := false, laid := [("palfrey/blake.initial", laid_palfrey_blake_initial)] }
def SealLongSaid : Prop := sealLongRow.holds Tryd.pinned (OpenSpec.ofChange sealLongSpec)

/-- ITS FALSE NEIGHBOUR: 'it returns false'. Refute it at one input. -/
def sealLongWrong : ChangeSpec := { name := "sealLong", fn := fun _ => fun
  | [d1, d2, d3] => { results := [.lit (.bool false)], args := [d1, d2, d3] }
  | _ => none }
def SealLongWrongFalsely : Prop := sealLongRow.holds Tryd.pinned (OpenSpec.ofChange sealLongWrong)

/-- 'palfreylaw05.SealCloses': WHATEVER THE INPUT: true; the input reads as it did. -/
def sealClosesSpec : ChangeSpec := { name := "sealCloses", fn := fun _ => fun
  | [d1, d2, d3] => { results := [.lit (.bool true)], args := [d1, d2, d3] }
  | _ => none }
def sealClosesRow : OpenClaim := { program := "ythdjojindijmnaadoor", sum := "bfba80c49ec79c9d106dc41c1c8f7b8fcd8b6abfc227cc2271cb6e54e33a147a", func := "palfrey/palfreylaw05.SealCloses", spec := "sealCloses", unfollowed := true, recurses := true, named := ["palfrey/blake.initial"], apart := false, laid := [("palfrey/blake.initial", laid_palfrey_blake_initial)] }
def SealClosesSaid : Prop := sealClosesRow.holds Tryd.pinned (OpenSpec.ofChange sealClosesSpec)

/-- ITS FALSE NEIGHBOUR: 'it returns false'. Refute it at one input. -/
def sealClosesWrong : ChangeSpec := { name := "sealCloses", fn := fun _ => fun
  | [d1, d2, d3] => { results := [.lit (.bool false)], args := [d1, d2, d3] }
  | _ => none }
def SealClosesWrongFalsely : Prop := sealClosesRow.holds Tryd.pinned (OpenSpec.ofChange sealClosesWrong)

/-- 'palfreylaw05.SealOpens': WHATEVER THE INPUT: true; the input reads as it did. -/
def sealOpensSpec : ChangeSpec := { name := "sealOpens", fn := fun _ => fun
  | [d1, d2, d3] => { results := [.lit (.bool true)], args := [d1, d2, d3] }
  | _ => none }
def sealOpensRow : OpenClaim := { program := "ythdjojindijmnaadoor", sum := "bfba80c49ec79c9d106dc41c1c8f7b8fcd8b6abfc227cc2271cb6e54e33a147a", func := "palfrey/palfreylaw05.SealOpens", spec := "sealOpens", unfollowed := true, recurses := true, named := ["palfrey/blake.initial"], apart := false, laid := [("palfrey/blake.initial", laid_palfrey_blake_initial)] }
def SealOpensSaid : Prop := sealOpensRow.holds Tryd.pinned (OpenSpec.ofChange sealOpensSpec)

/-- ITS FALSE NEIGHBOUR: 'it returns false'. Refute it at one input. -/
def sealOpensWrong : ChangeSpec := { name := "sealOpens", fn := fun _ => fun
  | [d1, d2, d3] => { results := [.lit (.bool false)], args := [d1, d2, d3] }
  | _ => none }
def SealOpensWrongFalsely : Prop := sealOpensRow.holds Tryd.pinned (OpenSpec.ofChange sealOpensWrong)

/-- 'palfreylaw10.ChainParts': WHATEVER THE INPUT: true; the input reads as it did. -/
def chainPartsSpec : ChangeSpec := { name := "chainParts", fn := fun _ => fun
  | [d1, d2] => { results := [.lit (.bool true)], args := [d1, d2] }
  | _ => none }
def chainPartsRow : OpenClaim := { program := "ythdjojindijmnaadoor", sum := "bfba80c49ec79c9d106dc41c1c8f7b8fcd8b6abfc227cc2271cb6e54e33a147a", func := "palfrey/palfreylaw10.ChainParts", spec := "chainParts", unfollowed := true, recurses := true, named := ["palfrey/blake.initial"], apart := false, laid := [("palfrey/blake.initial", laid_palfrey_blake_initial)] }
def ChainPartsSaid : Prop := chainPartsRow.holds Tryd.pinned (OpenSpec.ofChange chainPartsSpec)

/-- ITS FALSE NEIGHBOUR: 'it returns false'. Refute it at one input. -/
def chainPartsWrong : ChangeSpec := { name := "chainParts", fn := fun _ => fun
  | [d1, d2] => { results := [.lit (.bool false)], args := [d1, d2] }
  | _ => none }
def ChainPartsWrongFalsely : Prop := chainPartsRow.holds Tryd.pinned (OpenSpec.ofChange chainPartsWrong)

/- THE SECOND FORM. 'bulk': how many values and letters a reading holds, each counted each time it is reached (what is shared counts as often as it is met; a slice's spare places count too). A statement '..UptoSaid' is the law's where the arguments, and the package variables that the reading takes, are together of bulk at most 1048576: NARROWER than '..Said'. Prove '..Said' where nothing that the law and all that it calls make is longer than what came in: it says more and counts as full. Else prove '..UptoSaid'. A law counts once. -/
mutual
def uptoBulk {H : Type} : DataW H → Nat
  | .lit (.string bytes) => bytes.length + 1
  | .lit _ => 1
  | .nil => 1
  | .ptr d => uptoBulk d + 1
  | .slice elems spare => uptoBulkAll elems + uptoBulkAll spare + 1
  | .agg parts => uptoBulkAll parts + 1
  | .iface _ d => uptoBulk d + 1
  | .map entries => uptoBulkEntries entries + 1
  | .held _ => 1
def uptoBulkAll {H : Type} : List (DataW H) → Nat
  | [] => 0
  | d :: r => uptoBulk d + uptoBulkAll r
def uptoBulkEntries {H : Type} : List (Lit × DataW H) → Nat
  | [] => 0
  | x :: r => uptoBulkEntry x + uptoBulkEntries r
def uptoBulkEntry {H : Type} : Lit × DataW H → Nat
  | (.string bytes, d) => bytes.length + uptoBulk d + 1
  | (_, d) => uptoBulk d + 1
 end
def uptoSmall : (H : Type) → List (DataW H) → Bool := fun _ ds => decide (uptoBulkAll ds ≤ 1048576)
def OpenSpec.upto (s : _root_.Go.ChangeSpec) : _root_.Go.OpenSpec := { _root_.Go.OpenSpec.ofChange s with cond := some uptoSmall }

/-- 'palfreylaw14.CommitOne', WHERE WHAT IT READS IS OF BULK AT MOST 1048576: true; the input reads as it did. -/
def commitOneUptoRow : OpenClaim := { program := "ythdjojindijmnaadoor", sum := "bfba80c49ec79c9d106dc41c1c8f7b8fcd8b6abfc227cc2271cb6e54e33a147a", func := "palfrey/palfreylaw14.CommitOne", spec := "commitOne", named := ["palfrey/blake.initial"], apart := false, laid := [("palfrey/blake.initial", laid_palfrey_blake_initial)], narrowed := true }
def CommitOneUptoSaid : Prop := commitOneUptoRow.holds Tryd.pinned (OpenSpec.upto commitOneSpec)

/-- 'palfreylaw14.CommitMakes', WHERE WHAT IT READS IS OF BULK AT MOST 1048576: true; the input reads as it did. -/
def commitMakesUptoRow : OpenClaim := { program := "ythdjojindijmnaadoor", sum := "bfba80c49ec79c9d106dc41c1c8f7b8fcd8b6abfc227cc2271cb6e54e33a147a", func := "palfrey/palfreylaw14.CommitMakes", spec := "commitMakes", named := ["palfrey/blake.initial"], apart := false, laid := [("palfrey/blake.initial", laid_palfrey_blake_initial)], narrowed := true }
def CommitMakesUptoSaid : Prop := commitMakesUptoRow.holds Tryd.pinned (OpenSpec.upto commitMakesSpec)

/-- 'palfreylaw14.CommitRows', WHERE WHAT IT READS IS OF BULK AT MOST 1048576: true; the input reads as it did. -/
def commitRowsUptoRow : OpenClaim := { program := "ythdjojindijmnaadoor", sum := "bfba80c49ec79c9d106dc41c1c8f7b8fcd8b6abfc227cc2271cb6e54e33a147a", func := "palfrey/palfreylaw14.CommitRows", spec := "commitRows", named := ["palfrey/blake.initial"], apart := false, laid := [("palfrey/blake.initial", laid_palfrey_blake_initial)], narrowed := true }
def CommitRowsUptoSaid : Prop := commitRowsUptoRow.holds Tryd.pinned (OpenSpec.upto commitRowsSpec)

/-- 'palfreylaw14.CommitPacks', WHERE WHAT IT READS IS OF BULK AT MOST 1048576: true; the input reads as it did. -/
def commitPacksUptoRow : OpenClaim := { program := "ythdjojindijmnaadoor", sum := "bfba80c49ec79c9d106dc41c1c8f7b8fcd8b6abfc227cc2271cb6e54e33a147a", func := "palfrey/palfreylaw14.CommitPacks", spec := "commitPacks", named := ["palfrey/blake.initial"], apart := false, laid := [("palfrey/blake.initial", laid_palfrey_blake_initial)], narrowed := true }
def CommitPacksUptoSaid : Prop := commitPacksUptoRow.holds Tryd.pinned (OpenSpec.upto commitPacksSpec)

/-- 'palfreylaw05.SealBack', WHERE WHAT IT READS IS OF BULK AT MOST 1048576: true; the input reads as it did. -/
def sealBackUptoRow : OpenClaim := { program := "ythdjojindijmnaadoor", sum := "bfba80c49ec79c9d106dc41c1c8f7b8fcd8b6abfc227cc2271cb6e54e33a147a", func := "palfrey/palfreylaw05.SealBack", spec := "sealBack", unfollowed := true, recurses := true, named := ["palfrey/blake.initial"], apart := false, laid := [("palfrey/blake.initial", laid_palfrey_blake_initial)], narrowed := true }
def SealBackUptoSaid : Prop := sealBackUptoRow.holds Tryd.pinned (OpenSpec.upto sealBackSpec)

/-- 'palfreylaw05.SealOne', WHERE WHAT IT READS IS OF BULK AT MOST 1048576: true; the input reads as it did. -/
def sealOneUptoRow : OpenClaim := { program := "ythdjojindijmnaadoor", sum := "bfba80c49ec79c9d106dc41c1c8f7b8fcd8b6abfc227cc2271cb6e54e33a147a", func := "palfrey/palfreylaw05.SealOne", spec := "sealOne", unfollowed := true, recurses := true, named := ["palfrey/blake.initial"], apart := false, laid := [("palfrey/blake.initial", laid_palfrey_blake_initial)], narrowed := true }
def SealOneUptoSaid : Prop := sealOneUptoRow.holds Tryd.pinned (OpenSpec.upto sealOneSpec)

/-- 'palfreylaw05.SealLong', WHERE WHAT IT READS IS OF BULK AT MOST 1048576: true; the input reads as it did. -/
def sealLongUptoRow : OpenClaim := { program := "ythdjojindijmnaadoor", sum := "bfba80c49ec79c9d106dc41c1c8f7b8fcd8b6abfc227cc2271cb6e54e33a147a", func := "palfrey/palfreylaw05.SealLong", spec := "sealLong", unfollowed := true, recurses := true, named := ["palfrey/blake.initial"], apart := false, laid := [("palfrey/blake.initial", laid_palfrey_blake_initial)], narrowed := true }
def SealLongUptoSaid : Prop := sealLongUptoRow.holds Tryd.pinned (OpenSpec.upto sealLongSpec)

/-- 'palfreylaw05.SealCloses', WHERE WHAT IT READS IS OF BULK AT MOST 1048576: true; the input reads as it did. -/
def sealClosesUptoRow : OpenClaim := { program := "ythdjojindijmnaadoor", sum := "bfba80c49ec79c9d106dc41c1c8f7b8fcd8b6abfc227cc2271cb6e54e33a147a", func := "palfrey/palfreylaw05.SealCloses", spec := "sealCloses", unfollowed := true, recurses := true, named := ["palfrey/blake.initial"], apart := false, laid := [("palfrey/blake.initial", laid_palfrey_blake_initial)], narrowed := true }
def SealClosesUptoSaid : Prop := sealClosesUptoRow.holds Tryd.pinned (OpenSpec.upto sealClosesSpec)

/-- 'palfreylaw05.SealOpens', WHERE WHAT IT READS IS OF BULK AT MOST 1048576: true; the input reads as it did. -/
def sealOpensUptoRow : OpenClaim := { program := "ythdjojindijmnaadoor", sum := "bfba80c49ec79c9d106dc41c1c8f7b8fcd8b6abfc227cc2271cb6e54e33a147a", func := "palfrey/palfreylaw05.SealOpens", spec := "sealOpens", unfollowed := true, recurses := true, named := ["palfrey/blake.initial"], apart := false, laid := [("palfrey/blake.initial", laid_palfrey_blake_initial)], narrowed := true }
def SealOpensUptoSaid : Prop := sealOpensUptoRow.holds Tryd.pinned (OpenSpec.upto sealOpensSpec)

/-- 'palfreylaw10.ChainParts', WHERE WHAT IT READS IS OF BULK AT MOST 1048576: true; the input reads as it did. -/
def chainPartsUptoRow : OpenClaim := { program := "ythdjojindijmnaadoor", sum := "bfba80c49ec79c9d106dc41c1c8f7b8fcd8b6abfc227cc2271cb6e54e33a147a", func := "palfrey/palfreylaw10.ChainParts", spec := "chainParts", unfollowed := true, recurses := true, named := ["palfrey/blake.initial"], apart := false, laid := [("palfrey/blake.initial", laid_palfrey_blake_initial)], narrowed := true }
def ChainPartsUptoSaid : Prop := chainPartsUptoRow.holds Tryd.pinned (OpenSpec.upto chainPartsSpec)

end Rows
end Go.Proofs.YthdjojindijmnaaDoor
