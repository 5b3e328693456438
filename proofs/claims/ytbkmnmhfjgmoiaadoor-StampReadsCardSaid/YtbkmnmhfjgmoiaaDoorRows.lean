/-
  NARROWER THAN 'FOR EVERY INPUT', by the rows' own cells (each row's printed sentence says how): StampMakes: laid · StampChecks: laid · StampReads: laid · StampWindow: laid · StampEpochs: laid.
  DERIVED. THE GIVEN ROWS OF THIS SEAT. 5 by the template 'for every input the law returns true; each argument reads behind the call as it read before'; 0 by the template 'total and deterministic' (their statements: YtbkmnmhfjgmoiaaDoorTotals.lean).
  GIVEN WITH THE SEED: the statements are not yours to turn. If you find one false, say at which input.
  Laid BY PROGRAM, IN A SANDBOX (cutbox-rows.mjs): the forced cells as the released guide's own fill.sh prints them over the translation 644485ed526af69e… (all of the seat's roots in one cut). By AI agents, Wed Nov 11 2026. No macro, syntax, notation, axiom, sorry.
-/
import Derived.Test.YtbkmnmhfjgmoiaaDoorChecked
import GoSem.Claim
import GoSem.ClaimJoined
import GoSem.ClaimMapViews
import Derived.JoinedTies
import Derived.KernelRfl
namespace Go.Proofs.YtbkmnmhfjgmoiaaDoor
/- THE CELL 'sum', in the pinned program and in every row, IS THE sha256 OF THE DUMP (.gsa) THAT YtbkmnmhfjgmoiaaDoorProg.lean LOADS. Nothing in Lean hashes anything: it is a label: what it is worth is what the hold of that sum in a sandbox is worth. -/
noncomputable def Tryd.pinned : Pinned := { name := "ytbkmnmhfjgmoiaadoor", sum := "644485ed526af69ecdb9c289858bae790b63c9ef4c6cc6261aa05f8a72d0f784", checked := Tryd.checked }
namespace Rows
def none {H : Type} : Left H := { results := [], args := [] }

/- WHAT THE LISTED PACKAGE-LEVEL VARIABLES READ AS WHEN THE CALL BEGINS. Each datum BY PROGRAM (the guide's laid-datum.mjs) off the statement by which the dump's own 'gosem.cut.vars' lays the variable. In a bare row this is a premise. The card (YtbkmnmhfjgmoiaaDoorCards.lean) ties it to the program's text. -/
def laid_palfrey_blake_initial {H : Type} : DataW H := .agg [.lit (.int .u32 1779033703), .lit (.int .u32 3144134277), .lit (.int .u32 1013904242), .lit (.int .u32 2773480762), .lit (.int .u32 1359893119), .lit (.int .u32 2600822924), .lit (.int .u32 528734635), .lit (.int .u32 1541459225)]

/-- 'palfreylaw16.StampMakes': WHATEVER THE INPUT: true; the input reads as it did. -/
def stampMakesSpec : ChangeSpec := { name := "stampMakes", fn := fun _ => fun
  | [d1, d2, d3] => { results := [.lit (.bool true)], args := [d1, d2, d3] }
  | _ => none }
def stampMakesRow : OpenClaim := { program := "ytbkmnmhfjgmoiaadoor", sum := "644485ed526af69ecdb9c289858bae790b63c9ef4c6cc6261aa05f8a72d0f784", func := "palfrey/palfreylaw16.StampMakes", spec := "stampMakes", unfollowed := true, recurses := true, named := ["palfrey/blake.initial"], apart := false, laid := [("palfrey/blake.initial", laid_palfrey_blake_initial)] }
def StampMakesSaid : Prop := stampMakesRow.holds Tryd.pinned (OpenSpec.ofChange stampMakesSpec)

/-- ITS FALSE NEIGHBOUR: 'it returns false'. Refute it at one input. -/
def stampMakesWrong : ChangeSpec := { name := "stampMakes", fn := fun _ => fun
  | [d1, d2, d3] => { results := [.lit (.bool false)], args := [d1, d2, d3] }
  | _ => none }
def StampMakesWrongFalsely : Prop := stampMakesRow.holds Tryd.pinned (OpenSpec.ofChange stampMakesWrong)

/-- 'palfreylaw16.StampChecks': WHATEVER THE INPUT: true; the input reads as it did. -/
def stampChecksSpec : ChangeSpec := { name := "stampChecks", fn := fun _ => fun
  | [d1, d2, d3] => { results := [.lit (.bool true)], args := [d1, d2, d3] }
  | _ => none }
def stampChecksRow : OpenClaim := { program := "ytbkmnmhfjgmoiaadoor", sum := "644485ed526af69ecdb9c289858bae790b63c9ef4c6cc6261aa05f8a72d0f784", func := "palfrey/palfreylaw16.StampChecks", spec := "stampChecks", unfollowed := true, recurses := true, named := ["palfrey/blake.initial"], apart := false, laid := [("palfrey/blake.initial", laid_palfrey_blake_initial)] }
def StampChecksSaid : Prop := stampChecksRow.holds Tryd.pinned (OpenSpec.ofChange stampChecksSpec)

/-- ITS FALSE NEIGHBOUR: 'it returns false'. Refute it at one input. -/
def stampChecksWrong : ChangeSpec := { name := "stampChecks", fn := fun _ => fun
  | [d1, d2, d3] => { results := [.lit (.bool false)], args := [d1, d2, d3] }
  | _ => none }
def StampChecksWrongFalsely : Prop := stampChecksRow.holds Tryd.pinned (OpenSpec.ofChange stampChecksWrong)

/-- 'palfreylaw16.StampReads': WHATEVER THE INPUT: true; the input reads as it did. -/
def stampReadsSpec : ChangeSpec := { name := "stampReads", fn := fun _ => fun
  | [d1, d2] => { results := [.lit (.bool true)], args := [d1, d2] }
  | _ => none }
def stampReadsRow : OpenClaim := { program := "ytbkmnmhfjgmoiaadoor", sum := "644485ed526af69ecdb9c289858bae790b63c9ef4c6cc6261aa05f8a72d0f784", func := "palfrey/palfreylaw16.StampReads", spec := "stampReads", unfollowed := true, recurses := true, named := ["palfrey/blake.initial"], apart := false, laid := [("palfrey/blake.initial", laid_palfrey_blake_initial)] }
def StampReadsSaid : Prop := stampReadsRow.holds Tryd.pinned (OpenSpec.ofChange stampReadsSpec)

/-- ITS FALSE NEIGHBOUR: 'it returns false'. Refute it at one input. -/
def stampReadsWrong : ChangeSpec := { name := "stampReads", fn := fun _ => fun
  | [d1, d2] => { results := [.lit (.bool false)], args := [d1, d2] }
  | _ => none }
def StampReadsWrongFalsely : Prop := stampReadsRow.holds Tryd.pinned (OpenSpec.ofChange stampReadsWrong)

/-- 'palfreylaw16.StampWindow': WHATEVER THE INPUT: true; the input reads as it did. -/
def stampWindowSpec : ChangeSpec := { name := "stampWindow", fn := fun _ => fun
  | [d1, d2, d3] => { results := [.lit (.bool true)], args := [d1, d2, d3] }
  | _ => none }
def stampWindowRow : OpenClaim := { program := "ytbkmnmhfjgmoiaadoor", sum := "644485ed526af69ecdb9c289858bae790b63c9ef4c6cc6261aa05f8a72d0f784", func := "palfrey/palfreylaw16.StampWindow", spec := "stampWindow", unfollowed := true, recurses := true, named := ["palfrey/blake.initial"], apart := false, laid := [("palfrey/blake.initial", laid_palfrey_blake_initial)] }
def StampWindowSaid : Prop := stampWindowRow.holds Tryd.pinned (OpenSpec.ofChange stampWindowSpec)

/-- ITS FALSE NEIGHBOUR: 'it returns false'. Refute it at one input. -/
def stampWindowWrong : ChangeSpec := { name := "stampWindow", fn := fun _ => fun
  | [d1, d2, d3] => { results := [.lit (.bool false)], args := [d1, d2, d3] }
  | _ => none }
def StampWindowWrongFalsely : Prop := stampWindowRow.holds Tryd.pinned (OpenSpec.ofChange stampWindowWrong)

/-- 'palfreylaw16.StampEpochs': WHATEVER THE INPUT: true; the input reads as it did. -/
def stampEpochsSpec : ChangeSpec := { name := "stampEpochs", fn := fun _ => fun
  | [d1, d2, d3] => { results := [.lit (.bool true)], args := [d1, d2, d3] }
  | _ => none }
def stampEpochsRow : OpenClaim := { program := "ytbkmnmhfjgmoiaadoor", sum := "644485ed526af69ecdb9c289858bae790b63c9ef4c6cc6261aa05f8a72d0f784", func := "palfrey/palfreylaw16.StampEpochs", spec := "stampEpochs", unfollowed := true, recurses := true, named := ["palfrey/blake.initial"], apart := false, laid := [("palfrey/blake.initial", laid_palfrey_blake_initial)] }
def StampEpochsSaid : Prop := stampEpochsRow.holds Tryd.pinned (OpenSpec.ofChange stampEpochsSpec)

/-- ITS FALSE NEIGHBOUR: 'it returns false'. Refute it at one input. -/
def stampEpochsWrong : ChangeSpec := { name := "stampEpochs", fn := fun _ => fun
  | [d1, d2, d3] => { results := [.lit (.bool false)], args := [d1, d2, d3] }
  | _ => none }
def StampEpochsWrongFalsely : Prop := stampEpochsRow.holds Tryd.pinned (OpenSpec.ofChange stampEpochsWrong)

/- THE SECOND FORM. 'bulk': how many values and letters a reading holds, each counted each time it is reached (what is shared counts as often as it is met; a slice's spare places count too). A statement '..UptoSaid' is the law's where the arguments, and the package variables that the reading takes, are together of bulk at most 1048576: NARROWER than '..Said'. Prove '..Said' where nothing that the law and all that it calls make is longer than what came in: it says more and counts as full. Else prove '..UptoSaid'. A law counts once. -/
mutual
def uptoBulk {H : Type} : DataW H → Nat
  | .lit (.string bytes) => bytes.length + 1
  | .lit _ => 1
  | .nil => 1
  | .ptr d => uptoBulk d + 1
  | .slice elems spare => uptoBulkAll elems + uptoBulkAll spare + 1
  | .agg parts => uptoBulkAll parts + 1
  | .iface _ d => uptoBulk d + 1
  | .map entries => uptoBulkEntries entries + 1
  | .held _ => 1
def uptoBulkAll {H : Type} : List (DataW H) → Nat
  | [] => 0
  | d :: r => uptoBulk d + uptoBulkAll r
def uptoBulkEntries {H : Type} : List (Lit × DataW H) → Nat
  | [] => 0
  | x :: r => uptoBulkEntry x + uptoBulkEntries r
def uptoBulkEntry {H : Type} : Lit × DataW H → Nat
  | (.string bytes, d) => bytes.length + uptoBulk d + 1
  | (_, d) => uptoBulk d + 1
 end
def uptoSmall : (H : Type) → List (DataW H) → Bool := fun _ ds => decide (uptoBulkAll ds ≤ 1048576)
def OpenSpec.upto (s : _root_.Go.ChangeSpec) : _root_.Go.OpenSpec := { _root_.Go.OpenSpec.ofChange s with cond := some uptoSmall }

/-- 'palfreylaw16.StampMakes', WHERE WHAT IT READS IS OF BULK AT MOST 1048576: true; the input reads as it did. -/
def stampMakesUptoRow : OpenClaim := { program := "ytbkmnmhfjgmoiaadoor", sum := "644485ed526af69ecdb9c289858bae790b63c9ef4c6cc6261aa05f8a72d0f784", func := "palfrey/palfreylaw16.StampMakes", spec := "stampMakes", unfollowed := true, recurses := true, named := ["palfrey/blake.initial"], apart := false, laid := [("palfrey/blake.initial", laid_palfrey_blake_initial)], narrowed := true }
def StampMakesUptoSaid : Prop := stampMakesUptoRow.holds Tryd.pinned (OpenSpec.upto stampMakesSpec)

/-- 'palfreylaw16.StampChecks', WHERE WHAT IT READS IS OF BULK AT MOST 1048576: true; the input reads as it did. -/
def stampChecksUptoRow : OpenClaim := { program := "ytbkmnmhfjgmoiaadoor", sum := "644485ed526af69ecdb9c289858bae790b63c9ef4c6cc6261aa05f8a72d0f784", func := "palfrey/palfreylaw16.StampChecks", spec := "stampChecks", unfollowed := true, recurses := true, named := ["palfrey/blake.initial"], apart := false, laid := [("palfrey/blake.initial", laid_palfrey_blake_initial)], narrowed := true }
def StampChecksUptoSaid : Prop := stampChecksUptoRow.holds Tryd.pinned (OpenSpec.upto stampChecksSpec)

/-- 'palfreylaw16.StampReads', WHERE WHAT IT READS IS OF BULK AT MOST 1048576: true; the input reads as it did. -/
def stampReadsUptoRow : OpenClaim := { program := "ytbkmnmhfjgmoiaadoor", sum := "644485ed526af69ecdb9c289858bae790b63c9ef4c6cc6261aa05f8a72d0f784", func := "palfrey/palfreylaw16.StampReads", spec := "stampReads", unfollowed := true, recurses := true, named := ["palfrey/blake.initial"], apart := false, laid := [("palfrey/blake.initial", laid_palfrey_blake_initial)], narrowed := true }
def StampReadsUptoSaid : Prop := stampReadsUptoRow.holds Tryd.pinned (OpenSpec.upto stampReadsSpec)

/-- 'palfreylaw16.StampWindow', WHERE WHAT IT READS IS OF BULK AT MOST 1048576: true; the input reads as it did. -/
def stampWindowUptoRow : OpenClaim := { program := "ytbkmnmhfjgmoiaadoor", sum := "644485ed526af69ecdb9c289858bae790b63c9ef4c6cc6261aa05f8a72d0f784", func := "palfrey/palfreylaw16.StampWindow", spec := "stampWindow", unfollowed := true, recurses := true, named := ["palfrey/blake.initial"], apart := false, laid := [("palfrey/blake.initial", laid_palfrey_blake_initial)], narrowed := true }
def StampWindowUptoSaid : Prop := stampWindowUptoRow.holds Tryd.pinned (OpenSpec.upto stampWindowSpec)

/-- 'palfreylaw16.StampEpochs', WHERE WHAT IT READS IS OF BULK AT MOST 1048576: true; the input reads as it did. -/
def stampEpochsUptoRow : OpenClaim := { program := "ytbkmnmhfjgmoiaadoor", sum := "644485ed526af69ecdb9c289858bae790b63c9ef4c6cc6261aa05f8a72d0f784", func := "palfrey/palfreylaw16.StampEpochs", spec := "stampEpochs", unfollowed := true, recurses := true, named := ["palfrey/blake.initial"], apart := false, laid := [("palfrey/blake.initial", laid_palfrey_blake_initial)], narrowed := true }
def StampEpochsUptoSaid : Prop := stampEpochsUptoRow.holds Tryd.pinned (OpenSpec.upto stampEpochsSpec)

end Rows
end Go.Proofs.YtbkmnmhfjgmoiaaDoor
