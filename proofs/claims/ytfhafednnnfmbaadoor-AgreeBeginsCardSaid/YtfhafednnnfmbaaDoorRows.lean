/-
  NARROWER THAN 'FOR EVERY INPUT', by the rows' own cells (each row's printed sentence says how): AgreeBegins: laid · AgreeAnswers: laid · AgreeBoth: laid · AgreeOnce: laid.
  DERIVED. THE GIVEN ROWS OF THIS SEAT. 4 by the template 'for every input the law returns true; each argument reads behind the call as it read before'; 0 by the template 'total and deterministic' (their statements: YtfhafednnnfmbaaDoorTotals.lean).
  GIVEN WITH THE SEED: the statements are not yours to turn. If you find one false, say at which input.
  Laid BY PROGRAM, IN A SANDBOX (cutbox-rows.mjs): the forced cells as the released guide's own fill.sh prints them over the translation 33840ec20cc54b5c… (all of the seat's roots in one cut). By AI agents, Wed Nov 11 2026. No macro, syntax, notation, axiom, sorry.
-/
import Derived.Test.YtfhafednnnfmbaaDoorChecked
import GoSem.Claim
import GoSem.ClaimJoined
import GoSem.ClaimMapViews
import Derived.JoinedTies
import Derived.KernelRfl
namespace Go.Proofs.YtfhafednnnfmbaaDoor
/- THE CELL 'sum', in the pinned program and in every row, IS THE sha256 OF THE DUMP (.gsa) THAT YtfhafednnnfmbaaDoorProg.lean LOADS. Nothing in Lean hashes anything: it is a label: what it is worth is what the hold of that sum in a sandbox is worth. -/
noncomputable def Tryd.pinned : Pinned := { name := "ytfhafednnnfmbaadoor", sum := "33840ec20cc54b5c75a90b666479e0280b6758eb769b319e4376d16a20a5c109", checked := Tryd.checked }
namespace Rows
def none {H : Type} : Left H := { results := [], args := [] }

/- WHAT THE LISTED PACKAGE-LEVEL VARIABLES READ AS WHEN THE CALL BEGINS. Each datum BY PROGRAM (the guide's laid-datum.mjs) off the statement by which the dump's own 'gosem.cut.vars' lays the variable. In a bare row this is a premise. The card (YtfhafednnnfmbaaDoorCards.lean) ties it to the program's text. -/
def laid_palfrey_field_prime {H : Type} : DataW H := .agg [.lit (.int .u32 4294967277), .lit (.int .u32 4294967295), .lit (.int .u32 4294967295), .lit (.int .u32 4294967295), .lit (.int .u32 4294967295), .lit (.int .u32 4294967295), .lit (.int .u32 4294967295), .lit (.int .u32 2147483647)]
def laid_palfrey_blake_initial {H : Type} : DataW H := .agg [.lit (.int .u32 1779033703), .lit (.int .u32 3144134277), .lit (.int .u32 1013904242), .lit (.int .u32 2773480762), .lit (.int .u32 1359893119), .lit (.int .u32 2600822924), .lit (.int .u32 528734635), .lit (.int .u32 1541459225)]

/-- 'palfreylaw09.AgreeBegins': WHATEVER THE INPUT: true; the input reads as it did. -/
def agreeBeginsSpec : ChangeSpec := { name := "agreeBegins", fn := fun _ => fun
  | [d1, d2, d3] => { results := [.lit (.bool true)], args := [d1, d2, d3] }
  | _ => none }
def agreeBeginsRow : OpenClaim := { program := "ytfhafednnnfmbaadoor", sum := "33840ec20cc54b5c75a90b666479e0280b6758eb769b319e4376d16a20a5c109", func := "palfrey/palfreylaw09.AgreeBegins", spec := "agreeBegins", unfollowed := true, recurses := true, named := ["palfrey/field.prime", "palfrey/blake.initial"], apart := false, laid := [("palfrey/field.prime", laid_palfrey_field_prime), ("palfrey/blake.initial", laid_palfrey_blake_initial)] }
def AgreeBeginsSaid : Prop := agreeBeginsRow.holds Tryd.pinned (OpenSpec.ofChange agreeBeginsSpec)

/-- ITS FALSE NEIGHBOUR: 'it returns false'. Refute it at one input. -/
def agreeBeginsWrong : ChangeSpec := { name := "agreeBegins", fn := fun _ => fun
  | [d1, d2, d3] => { results := [.lit (.bool false)], args := [d1, d2, d3] }
  | _ => none }
def AgreeBeginsWrongFalsely : Prop := agreeBeginsRow.holds Tryd.pinned (OpenSpec.ofChange agreeBeginsWrong)

/-- 'palfreylaw09.AgreeAnswers': WHATEVER THE INPUT: true; the input reads as it did. -/
def agreeAnswersSpec : ChangeSpec := { name := "agreeAnswers", fn := fun _ => fun
  | [d1, d2, d3] => { results := [.lit (.bool true)], args := [d1, d2, d3] }
  | _ => none }
def agreeAnswersRow : OpenClaim := { program := "ytfhafednnnfmbaadoor", sum := "33840ec20cc54b5c75a90b666479e0280b6758eb769b319e4376d16a20a5c109", func := "palfrey/palfreylaw09.AgreeAnswers", spec := "agreeAnswers", unfollowed := true, recurses := true, named := ["palfrey/field.prime", "palfrey/blake.initial"], apart := false, laid := [("palfrey/field.prime", laid_palfrey_field_prime), ("palfrey/blake.initial", laid_palfrey_blake_initial)] }
def AgreeAnswersSaid : Prop := agreeAnswersRow.holds Tryd.pinned (OpenSpec.ofChange agreeAnswersSpec)

/-- ITS FALSE NEIGHBOUR: 'it returns false'. Refute it at one input. -/
def agreeAnswersWrong : ChangeSpec := { name := "agreeAnswers", fn := fun _ => fun
  | [d1, d2, d3] => { results := [.lit (.bool false)], args := [d1, d2, d3] }
  | _ => none }
def AgreeAnswersWrongFalsely : Prop := agreeAnswersRow.holds Tryd.pinned (OpenSpec.ofChange agreeAnswersWrong)

/-- 'palfreylaw09.AgreeBoth': WHATEVER THE INPUT: true; the input reads as it did. -/
def agreeBothSpec : ChangeSpec := { name := "agreeBoth", fn := fun _ => fun
  | [d1, d2] => { results := [.lit (.bool true)], args := [d1, d2] }
  | _ => none }
def agreeBothRow : OpenClaim := { program := "ytfhafednnnfmbaadoor", sum := "33840ec20cc54b5c75a90b666479e0280b6758eb769b319e4376d16a20a5c109", func := "palfrey/palfreylaw09.AgreeBoth", spec := "agreeBoth", unfollowed := true, recurses := true, named := ["palfrey/field.prime", "palfrey/blake.initial"], apart := false, laid := [("palfrey/field.prime", laid_palfrey_field_prime), ("palfrey/blake.initial", laid_palfrey_blake_initial)] }
def AgreeBothSaid : Prop := agreeBothRow.holds Tryd.pinned (OpenSpec.ofChange agreeBothSpec)

/-- ITS FALSE NEIGHBOUR: 'it returns false'. Refute it at one input. -/
def agreeBothWrong : ChangeSpec := { name := "agreeBoth", fn := fun _ => fun
  | [d1, d2] => { results := [.lit (.bool false)], args := [d1, d2] }
  | _ => none }
def AgreeBothWrongFalsely : Prop := agreeBothRow.holds Tryd.pinned (OpenSpec.ofChange agreeBothWrong)

/-- 'palfreylaw09.AgreeOnce': WHATEVER THE INPUT: true; the input reads as it did. -/
def agreeOnceSpec : ChangeSpec := { name := "agreeOnce", fn := fun _ => fun
  | [d] => { results := [.lit (.bool true)], args := [d] }
  | _ => none }
def agreeOnceRow : OpenClaim := { program := "ytfhafednnnfmbaadoor", sum := "33840ec20cc54b5c75a90b666479e0280b6758eb769b319e4376d16a20a5c109", func := "palfrey/palfreylaw09.AgreeOnce", spec := "agreeOnce", unfollowed := true, recurses := true, named := ["palfrey/field.prime", "palfrey/blake.initial"], apart := false, laid := [("palfrey/field.prime", laid_palfrey_field_prime), ("palfrey/blake.initial", laid_palfrey_blake_initial)] }
def AgreeOnceSaid : Prop := agreeOnceRow.holds Tryd.pinned (OpenSpec.ofChange agreeOnceSpec)

/-- ITS FALSE NEIGHBOUR: 'it returns false'. Refute it at one input. -/
def agreeOnceWrong : ChangeSpec := { name := "agreeOnce", fn := fun _ => fun
  | [d] => { results := [.lit (.bool false)], args := [d] }
  | _ => none }
def AgreeOnceWrongFalsely : Prop := agreeOnceRow.holds Tryd.pinned (OpenSpec.ofChange agreeOnceWrong)

/- THE SECOND FORM. 'bulk': how many values and letters a reading holds, each counted each time it is reached (what is shared counts as often as it is met; a slice's spare places count too). A statement '..UptoSaid' is the law's where the arguments, and the package variables that the reading takes, are together of bulk at most 1048576: NARROWER than '..Said'. Prove '..Said' where nothing that the law and all that it calls make is longer than what came in: it says more and counts as full. Else prove '..UptoSaid'. A law counts once. -/
mutual
def uptoBulk {H : Type} : DataW H → Nat
  | .lit (.string bytes) => bytes.length + 1
  | .lit _ => 1
  | .nil => 1
  | .ptr d => uptoBulk d + 1
  | .slice elems spare => uptoBulkAll elems + uptoBulkAll spare + 1
  | .agg parts => uptoBulkAll parts + 1
  | .iface _ d => uptoBulk d + 1
  | .map entries => uptoBulkEntries entries + 1
  | .held _ => 1
def uptoBulkAll {H : Type} : List (DataW H) → Nat
  | [] => 0
  | d :: r => uptoBulk d + uptoBulkAll r
def uptoBulkEntries {H : Type} : List (Lit × DataW H) → Nat
  | [] => 0
  | x :: r => uptoBulkEntry x + uptoBulkEntries r
def uptoBulkEntry {H : Type} : Lit × DataW H → Nat
  | (.string bytes, d) => bytes.length + uptoBulk d + 1
  | (_, d) => uptoBulk d + 1
 end
def uptoSmall : (H : Type) → List (DataW H) → Bool := fun _ ds => decide (uptoBulkAll ds ≤ 1048576)
def OpenSpec.upto (s : _root_.Go.ChangeSpec) : _root_.Go.OpenSpec := { _root_.Go.OpenSpec.ofChange s with cond := some uptoSmall }

/-- 'palfreylaw09.AgreeBegins', WHERE WHAT IT READS IS OF BULK AT MOST 1048576: true; the input reads as it did. -/
def agreeBeginsUptoRow : OpenClaim := { program := "ytfhafednnnfmbaadoor", sum := "33840ec20cc54b5c75a90b666479e0280b6758eb769b319e4376d16a20a5c109", func := "palfrey/palfreylaw09.AgreeBegins", spec := "agreeBegins", unfollowed := true, recurses := true, named := ["palfrey/field.prime", "palfrey/blake.initial"], apart := false, laid := [("palfrey/field.prime", laid_palfrey_field_prime), ("palfrey/blake.initial", laid_palfrey_blake_initial)], narrowed := true }
def AgreeBeginsUptoSaid : Prop := agreeBeginsUptoRow.holds Tryd.pinned (OpenSpec.upto agreeBeginsSpec)

/-- 'palfreylaw09.AgreeAnswers', WHERE WHAT IT READS IS OF BULK AT MOST 1048576: true; the input reads as it did. -/
def agreeAnswersUptoRow : OpenClaim := { program := "ytfhafednnnfmbaadoor", sum := "33840ec20cc54b5c75a90b666479e0280b6758eb769b319e4376d16a20a5c109", func := "palfrey/palfreylaw09.AgreeAnswers", spec := "agreeAnswers", unfollowed := true, recurses := true, named := ["palfrey/field.prime", "palfrey/blake.initial"], apart := false, laid := [("palfrey/field.prime", laid_palfrey_field_prime), ("palfrey/blake.initial", laid_palfrey_blake_initial)], narrowed := true }
def AgreeAnswersUptoSaid : Prop := agreeAnswersUptoRow.holds Tryd.pinned (OpenSpec.upto agreeAnswersSpec)

/-- 'palfreylaw09.AgreeBoth', WHERE WHAT IT READS IS OF BULK AT MOST 1048576: true; the input reads as it did. -/
def agreeBothUptoRow : OpenClaim := { program := "ytfhafednnnfmbaadoor", sum := "33840ec20cc54b5c75a90b666479e0280b6758eb769b319e4376d16a20a5c109", func := "palfrey/palfreylaw09.AgreeBoth", spec := "agreeBoth", unfollowed := true, recurses := true, named := ["palfrey/field.prime", "palfrey/blake.initial"], apart := false, laid := [("palfrey/field.prime", laid_palfrey_field_prime), ("palfrey/blake.initial", laid_palfrey_blake_initial)], narrowed := true }
def AgreeBothUptoSaid : Prop := agreeBothUptoRow.holds Tryd.pinned (OpenSpec.upto agreeBothSpec)

/-- 'palfreylaw09.AgreeOnce', WHERE WHAT IT READS IS OF BULK AT MOST 1048576: true; the input reads as it did. -/
def agreeOnceUptoRow : OpenClaim := { program := "ytfhafednnnfmbaadoor", sum := "33840ec20cc54b5c75a90b666479e0280b6758eb769b319e4376d16a20a5c109", func := "palfrey/palfreylaw09.AgreeOnce", spec := "agreeOnce", unfollowed := true, recurses := true, named := ["palfrey/field.prime", "palfrey/blake.initial"], apart := false, laid := [("palfrey/field.prime", laid_palfrey_field_prime), ("palfrey/blake.initial", laid_palfrey_blake_initial)], narrowed := true }
def AgreeOnceUptoSaid : Prop := agreeOnceUptoRow.holds Tryd.pinned (OpenSpec.upto agreeOnceSpec)

end Rows
end Go.Proofs.YtfhafednnnfmbaaDoor
