/-
  NARROWER THAN 'FOR EVERY INPUT', by the rows' own cells (each row's printed sentence says how): FieldReckons: laid · FieldInverts: laid · FieldTurns: laid · FieldBack: laid · FieldMany: laid · FieldNought: laid.
  DERIVED. THE GIVEN ROWS OF THIS SEAT. 6 by the template 'for every input the law returns true; each argument reads behind the call as it read before'; 0 by the template 'total and deterministic' (their statements: YteognebhlehjlaaDoorTotals.lean).
  GIVEN WITH THE SEED: the statements are not yours to turn. If you find one false, say at which input.
  Laid BY PROGRAM, IN A SANDBOX (cutbox-rows.mjs): the forced cells as the released guide's own fill.sh prints them over the translation 607647c1cf7c8e3f… (all of the seat's roots in one cut). By AI agents, Wed Nov 11 2026. No macro, syntax, notation, axiom, sorry.
-/
import Derived.Test.YteognebhlehjlaaDoorChecked
import GoSem.Claim
import GoSem.ClaimJoined
import GoSem.ClaimMapViews
import Derived.JoinedTies
import Derived.KernelRfl
namespace Go.Proofs.YteognebhlehjlaaDoor
/- THE CELL 'sum', in the pinned program and in every row, IS THE sha256 OF THE DUMP (.gsa) THAT YteognebhlehjlaaDoorProg.lean LOADS. Nothing in Lean hashes anything: it is a label: what it is worth is what the hold of that sum in a sandbox is worth. -/
noncomputable def Tryd.pinned : Pinned := { name := "yteognebhlehjlaadoor", sum := "607647c1cf7c8e3fc3626496794fae91217a2d8dc1651925c938d10447f97d5c", checked := Tryd.checked }
namespace Rows
def none {H : Type} : Left H := { results := [], args := [] }

/- WHAT THE LISTED PACKAGE-LEVEL VARIABLES READ AS WHEN THE CALL BEGINS. Each datum BY PROGRAM (the guide's laid-datum.mjs) off the statement by which the dump's own 'gosem.cut.vars' lays the variable. In a bare row this is a premise. The card (YteognebhlehjlaaDoorCards.lean) ties it to the program's text. -/
def laid_palfrey_field_prime {H : Type} : DataW H := .agg [.lit (.int .u32 4294967277), .lit (.int .u32 4294967295), .lit (.int .u32 4294967295), .lit (.int .u32 4294967295), .lit (.int .u32 4294967295), .lit (.int .u32 4294967295), .lit (.int .u32 4294967295), .lit (.int .u32 2147483647)]

/-- 'palfreylaw06.FieldReckons': WHATEVER THE INPUT: true; the input reads as it did. -/
def fieldReckonsSpec : ChangeSpec := { name := "fieldReckons", fn := fun _ => fun
  | [d1, d2] => { results := [.lit (.bool true)], args := [d1, d2] }
  | _ => none }
def fieldReckonsRow : OpenClaim := { program := "yteognebhlehjlaadoor", sum := "607647c1cf7c8e3fc3626496794fae91217a2d8dc1651925c938d10447f97d5c", func := "palfrey/palfreylaw06.FieldReckons", spec := "fieldReckons", named := ["palfrey/field.prime"], apart := false, laid := [("palfrey/field.prime", laid_palfrey_field_prime)] }
def FieldReckonsSaid : Prop := fieldReckonsRow.holds Tryd.pinned (OpenSpec.ofChange fieldReckonsSpec)

/-- ITS FALSE NEIGHBOUR: 'it returns false'. Refute it at one input. -/
def fieldReckonsWrong : ChangeSpec := { name := "fieldReckons", fn := fun _ => fun
  | [d1, d2] => { results := [.lit (.bool false)], args := [d1, d2] }
  | _ => none }
def FieldReckonsWrongFalsely : Prop := fieldReckonsRow.holds Tryd.pinned (OpenSpec.ofChange fieldReckonsWrong)

/-- 'palfreylaw06.FieldInverts': WHATEVER THE INPUT: true; the input reads as it did. -/
def fieldInvertsSpec : ChangeSpec := { name := "fieldInverts", fn := fun _ => fun
  | [d1, d2] => { results := [.lit (.bool true)], args := [d1, d2] }
  | _ => none }
def fieldInvertsRow : OpenClaim := { program := "yteognebhlehjlaadoor", sum := "607647c1cf7c8e3fc3626496794fae91217a2d8dc1651925c938d10447f97d5c", func := "palfrey/palfreylaw06.FieldInverts", spec := "fieldInverts", named := ["palfrey/field.prime"], apart := false, laid := [("palfrey/field.prime", laid_palfrey_field_prime)] }
def FieldInvertsSaid : Prop := fieldInvertsRow.holds Tryd.pinned (OpenSpec.ofChange fieldInvertsSpec)

/-- ITS FALSE NEIGHBOUR: 'it returns false'. Refute it at one input. -/
def fieldInvertsWrong : ChangeSpec := { name := "fieldInverts", fn := fun _ => fun
  | [d1, d2] => { results := [.lit (.bool false)], args := [d1, d2] }
  | _ => none }
def FieldInvertsWrongFalsely : Prop := fieldInvertsRow.holds Tryd.pinned (OpenSpec.ofChange fieldInvertsWrong)

/-- 'palfreylaw06.FieldTurns': WHATEVER THE INPUT: true; the input reads as it did. -/
def fieldTurnsSpec : ChangeSpec := { name := "fieldTurns", fn := fun _ => fun
  | [d1, d2, d3] => { results := [.lit (.bool true)], args := [d1, d2, d3] }
  | _ => none }
def fieldTurnsRow : OpenClaim := { program := "yteognebhlehjlaadoor", sum := "607647c1cf7c8e3fc3626496794fae91217a2d8dc1651925c938d10447f97d5c", func := "palfrey/palfreylaw06.FieldTurns", spec := "fieldTurns", named := ["palfrey/field.prime"], apart := false, laid := [("palfrey/field.prime", laid_palfrey_field_prime)] }
def FieldTurnsSaid : Prop := fieldTurnsRow.holds Tryd.pinned (OpenSpec.ofChange fieldTurnsSpec)

/-- ITS FALSE NEIGHBOUR: 'it returns false'. Refute it at one input. -/
def fieldTurnsWrong : ChangeSpec := { name := "fieldTurns", fn := fun _ => fun
  | [d1, d2, d3] => { results := [.lit (.bool false)], args := [d1, d2, d3] }
  | _ => none }
def FieldTurnsWrongFalsely : Prop := fieldTurnsRow.holds Tryd.pinned (OpenSpec.ofChange fieldTurnsWrong)

/-- 'palfreylaw06.FieldBack': WHATEVER THE INPUT: true; the input reads as it did. -/
def fieldBackSpec : ChangeSpec := { name := "fieldBack", fn := fun _ => fun
  | [d1, d2] => { results := [.lit (.bool true)], args := [d1, d2] }
  | _ => none }
def fieldBackRow : OpenClaim := { program := "yteognebhlehjlaadoor", sum := "607647c1cf7c8e3fc3626496794fae91217a2d8dc1651925c938d10447f97d5c", func := "palfrey/palfreylaw06.FieldBack", spec := "fieldBack", named := ["palfrey/field.prime"], apart := false, laid := [("palfrey/field.prime", laid_palfrey_field_prime)] }
def FieldBackSaid : Prop := fieldBackRow.holds Tryd.pinned (OpenSpec.ofChange fieldBackSpec)

/-- ITS FALSE NEIGHBOUR: 'it returns false'. Refute it at one input. -/
def fieldBackWrong : ChangeSpec := { name := "fieldBack", fn := fun _ => fun
  | [d1, d2] => { results := [.lit (.bool false)], args := [d1, d2] }
  | _ => none }
def FieldBackWrongFalsely : Prop := fieldBackRow.holds Tryd.pinned (OpenSpec.ofChange fieldBackWrong)

/-- 'palfreylaw06.FieldMany': WHATEVER THE INPUT: true; the input reads as it did. -/
def fieldManySpec : ChangeSpec := { name := "fieldMany", fn := fun _ => fun
  | [d1, d2, d3] => { results := [.lit (.bool true)], args := [d1, d2, d3] }
  | _ => none }
def fieldManyRow : OpenClaim := { program := "yteognebhlehjlaadoor", sum := "607647c1cf7c8e3fc3626496794fae91217a2d8dc1651925c938d10447f97d5c", func := "palfrey/palfreylaw06.FieldMany", spec := "fieldMany", named := ["palfrey/field.prime"], apart := false, laid := [("palfrey/field.prime", laid_palfrey_field_prime)] }
def FieldManySaid : Prop := fieldManyRow.holds Tryd.pinned (OpenSpec.ofChange fieldManySpec)

/-- ITS FALSE NEIGHBOUR: 'it returns false'. Refute it at one input. -/
def fieldManyWrong : ChangeSpec := { name := "fieldMany", fn := fun _ => fun
  | [d1, d2, d3] => { results := [.lit (.bool false)], args := [d1, d2, d3] }
  | _ => none }
def FieldManyWrongFalsely : Prop := fieldManyRow.holds Tryd.pinned (OpenSpec.ofChange fieldManyWrong)

/-- 'palfreylaw06.FieldNought': WHATEVER THE INPUT: true; the input reads as it did. -/
def fieldNoughtSpec : ChangeSpec := { name := "fieldNought", fn := fun _ => fun
  | [d] => { results := [.lit (.bool true)], args := [d] }
  | _ => none }
def fieldNoughtRow : OpenClaim := { program := "yteognebhlehjlaadoor", sum := "607647c1cf7c8e3fc3626496794fae91217a2d8dc1651925c938d10447f97d5c", func := "palfrey/palfreylaw06.FieldNought", spec := "fieldNought", named := ["palfrey/field.prime"], apart := false, laid := [("palfrey/field.prime", laid_palfrey_field_prime)] }
def FieldNoughtSaid : Prop := fieldNoughtRow.holds Tryd.pinned (OpenSpec.ofChange fieldNoughtSpec)

/-- ITS FALSE NEIGHBOUR: 'it returns false'. Refute it at one input. -/
def fieldNoughtWrong : ChangeSpec := { name := "fieldNought", fn := fun _ => fun
  | [d] => { results := [.lit (.bool false)], args := [d] }
  | _ => none }
def FieldNoughtWrongFalsely : Prop := fieldNoughtRow.holds Tryd.pinned (OpenSpec.ofChange fieldNoughtWrong)

/- THE SECOND FORM. 'bulk': how many values and letters a reading holds, each counted each time it is reached (what is shared counts as often as it is met; a slice's spare places count too). A statement '..UptoSaid' is the law's where the arguments, and the package variables that the reading takes, are together of bulk at most 1048576: NARROWER than '..Said'. Prove '..Said' where nothing that the law and all that it calls make is longer than what came in: it says more and counts as full. Else prove '..UptoSaid'. A law counts once. -/
mutual
def uptoBulk {H : Type} : DataW H → Nat
  | .lit (.string bytes) => bytes.length + 1
  | .lit _ => 1
  | .nil => 1
  | .ptr d => uptoBulk d + 1
  | .slice elems spare => uptoBulkAll elems + uptoBulkAll spare + 1
  | .agg parts => uptoBulkAll parts + 1
  | .iface _ d => uptoBulk d + 1
  | .map entries => uptoBulkEntries entries + 1
  | .held _ => 1
def uptoBulkAll {H : Type} : List (DataW H) → Nat
  | [] => 0
  | d :: r => uptoBulk d + uptoBulkAll r
def uptoBulkEntries {H : Type} : List (Lit × DataW H) → Nat
  | [] => 0
  | x :: r => uptoBulkEntry x + uptoBulkEntries r
def uptoBulkEntry {H : Type} : Lit × DataW H → Nat
  | (.string bytes, d) => bytes.length + uptoBulk d + 1
  | (_, d) => uptoBulk d + 1
 end
def uptoSmall : (H : Type) → List (DataW H) → Bool := fun _ ds => decide (uptoBulkAll ds ≤ 1048576)
def OpenSpec.upto (s : _root_.Go.ChangeSpec) : _root_.Go.OpenSpec := { _root_.Go.OpenSpec.ofChange s with cond := some uptoSmall }

/-- 'palfreylaw06.FieldReckons', WHERE WHAT IT READS IS OF BULK AT MOST 1048576: true; the input reads as it did. -/
def fieldReckonsUptoRow : OpenClaim := { program := "yteognebhlehjlaadoor", sum := "607647c1cf7c8e3fc3626496794fae91217a2d8dc1651925c938d10447f97d5c", func := "palfrey/palfreylaw06.FieldReckons", spec := "fieldReckons", named := ["palfrey/field.prime"], apart := false, laid := [("palfrey/field.prime", laid_palfrey_field_prime)], narrowed := true }
def FieldReckonsUptoSaid : Prop := fieldReckonsUptoRow.holds Tryd.pinned (OpenSpec.upto fieldReckonsSpec)

/-- 'palfreylaw06.FieldInverts', WHERE WHAT IT READS IS OF BULK AT MOST 1048576: true; the input reads as it did. -/
def fieldInvertsUptoRow : OpenClaim := { program := "yteognebhlehjlaadoor", sum := "607647c1cf7c8e3fc3626496794fae91217a2d8dc1651925c938d10447f97d5c", func := "palfrey/palfreylaw06.FieldInverts", spec := "fieldInverts", named := ["palfrey/field.prime"], apart := false, laid := [("palfrey/field.prime", laid_palfrey_field_prime)], narrowed := true }
def FieldInvertsUptoSaid : Prop := fieldInvertsUptoRow.holds Tryd.pinned (OpenSpec.upto fieldInvertsSpec)

/-- 'palfreylaw06.FieldTurns', WHERE WHAT IT READS IS OF BULK AT MOST 1048576: true; the input reads as it did. -/
def fieldTurnsUptoRow : OpenClaim := { program := "yteognebhlehjlaadoor", sum := "607647c1cf7c8e3fc3626496794fae91217a2d8dc1651925c938d10447f97d5c", func := "palfrey/palfreylaw06.FieldTurns", spec := "fieldTurns", named := ["palfrey/field.prime"], apart := false, laid := [("palfrey/field.prime", laid_palfrey_field_prime)], narrowed := true }
def FieldTurnsUptoSaid : Prop := fieldTurnsUptoRow.holds Tryd.pinned (OpenSpec.upto fieldTurnsSpec)

/-- 'palfreylaw06.FieldBack', WHERE WHAT IT READS IS OF BULK AT MOST 1048576: true; the input reads as it did. -/
def fieldBackUptoRow : OpenClaim := { program := "yteognebhlehjlaadoor", sum := "607647c1cf7c8e3fc3626496794fae91217a2d8dc1651925c938d10447f97d5c", func := "palfrey/palfreylaw06.FieldBack", spec := "fieldBack", named := ["palfrey/field.prime"], apart := false, laid := [("palfrey/field.prime", laid_palfrey_field_prime)], narrowed := true }
def FieldBackUptoSaid : Prop := fieldBackUptoRow.holds Tryd.pinned (OpenSpec.upto fieldBackSpec)

/-- 'palfreylaw06.FieldMany', WHERE WHAT IT READS IS OF BULK AT MOST 1048576: true; the input reads as it did. -/
def fieldManyUptoRow : OpenClaim := { program := "yteognebhlehjlaadoor", sum := "607647c1cf7c8e3fc3626496794fae91217a2d8dc1651925c938d10447f97d5c", func := "palfrey/palfreylaw06.FieldMany", spec := "fieldMany", named := ["palfrey/field.prime"], apart := false, laid := [("palfrey/field.prime", laid_palfrey_field_prime)], narrowed := true }
def FieldManyUptoSaid : Prop := fieldManyUptoRow.holds Tryd.pinned (OpenSpec.upto fieldManySpec)

/-- 'palfreylaw06.FieldNought', WHERE WHAT IT READS IS OF BULK AT MOST 1048576: true; the input reads as it did. -/
def fieldNoughtUptoRow : OpenClaim := { program := "yteognebhlehjlaadoor", sum := "607647c1cf7c8e3fc3626496794fae91217a2d8dc1651925c938d10447f97d5c", func := "palfrey/palfreylaw06.FieldNought", spec := "fieldNought", named := ["palfrey/field.prime"], apart := false, laid := [("palfrey/field.prime", laid_palfrey_field_prime)], narrowed := true }
def FieldNoughtUptoSaid : Prop := fieldNoughtUptoRow.holds Tryd.pinned (OpenSpec.upto fieldNoughtSpec)

end Rows
end Go.Proofs.YteognebhlehjlaaDoor
