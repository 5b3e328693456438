/-
  NARROWER THAN 'FOR EVERY INPUT', by the rows' own cells (each row's printed sentence says how): BlakeSums: laid · BlakeChecks: laid · BlakeOwn: laid · BlakeKeys: laid.
  DERIVED. THE GIVEN ROWS OF THIS SEAT. 4 by the template 'for every input the law returns true; each argument reads behind the call as it read before'; 0 by the template 'total and deterministic' (their statements: YtdecfofjcpnilaaDoorTotals.lean).
  GIVEN WITH THE SEED: the statements are not yours to turn. If you find one false, say at which input.
  Laid BY PROGRAM, IN A SANDBOX (cutbox-rows.mjs): the forced cells as the released guide's own fill.sh prints them over the translation 08da3b29f76b715f… (all of the seat's roots in one cut). By AI agents, Wed Nov 11 2026. No macro, syntax, notation, axiom, sorry.
-/
import Derived.Test.YtdecfofjcpnilaaDoorChecked
import GoSem.Claim
import GoSem.ClaimJoined
import GoSem.ClaimMapViews
import Derived.JoinedTies
import Derived.KernelRfl
namespace Go.Proofs.YtdecfofjcpnilaaDoor
/- THE CELL 'sum', in the pinned program and in every row, IS THE sha256 OF THE DUMP (.gsa) THAT YtdecfofjcpnilaaDoorProg.lean LOADS. Nothing in Lean hashes anything: it is a label: what it is worth is what the hold of that sum in a sandbox is worth. -/
noncomputable def Tryd.pinned : Pinned := { name := "ytdecfofjcpnilaadoor", sum := "08da3b29f76b715fe31333aa922bd2a4561cf991efa6df74241834842602a74d", checked := Tryd.checked }
namespace Rows
def none {H : Type} : Left H := { results := [], args := [] }

/- WHAT THE LISTED PACKAGE-LEVEL VARIABLES READ AS WHEN THE CALL BEGINS. Each datum BY PROGRAM (the guide's laid-datum.mjs) off the statement by which the dump's own 'gosem.cut.vars' lays the variable. In a bare row this is a premise. The card (YtdecfofjcpnilaaDoorCards.lean) ties it to the program's text. -/
def laid_palfrey_blake_initial {H : Type} : DataW H := .agg [.lit (.int .u32 1779033703), .lit (.int .u32 3144134277), .lit (.int .u32 1013904242), .lit (.int .u32 2773480762), .lit (.int .u32 1359893119), .lit (.int .u32 2600822924), .lit (.int .u32 528734635), .lit (.int .u32 1541459225)]

/-- 'palfreylaw02.BlakeSums': WHATEVER THE INPUT: true; the input reads as it did. -/
def blakeSumsSpec : ChangeSpec := { name := "blakeSums", fn := fun _ => fun
  | [d1, d2] => { results := [.lit (.bool true)], args := [d1, d2] }
  | _ => none }
def blakeSumsRow : OpenClaim := { program := "ytdecfofjcpnilaadoor", sum := "08da3b29f76b715fe31333aa922bd2a4561cf991efa6df74241834842602a74d", func := "palfrey/palfreylaw02.BlakeSums", spec := "blakeSums", named := ["palfrey/blake.initial"], apart := false, laid := [("palfrey/blake.initial", laid_palfrey_blake_initial)] }
def BlakeSumsSaid : Prop := blakeSumsRow.holds Tryd.pinned (OpenSpec.ofChange blakeSumsSpec)

/-- ITS FALSE NEIGHBOUR: 'it returns false'. Refute it at one input. -/
def blakeSumsWrong : ChangeSpec := { name := "blakeSums", fn := fun _ => fun
  | [d1, d2] => { results := [.lit (.bool false)], args := [d1, d2] }
  | _ => none }
def BlakeSumsWrongFalsely : Prop := blakeSumsRow.holds Tryd.pinned (OpenSpec.ofChange blakeSumsWrong)

/-- 'palfreylaw02.BlakeChecks': WHATEVER THE INPUT: true; the input reads as it did. -/
def blakeChecksSpec : ChangeSpec := { name := "blakeChecks", fn := fun _ => fun
  | [d1, d2, d3] => { results := [.lit (.bool true)], args := [d1, d2, d3] }
  | _ => none }
def blakeChecksRow : OpenClaim := { program := "ytdecfofjcpnilaadoor", sum := "08da3b29f76b715fe31333aa922bd2a4561cf991efa6df74241834842602a74d", func := "palfrey/palfreylaw02.BlakeChecks", spec := "blakeChecks", named := ["palfrey/blake.initial"], apart := false, laid := [("palfrey/blake.initial", laid_palfrey_blake_initial)] }
def BlakeChecksSaid : Prop := blakeChecksRow.holds Tryd.pinned (OpenSpec.ofChange blakeChecksSpec)

/-- ITS FALSE NEIGHBOUR: 'it returns false'. Refute it at one input. -/
def blakeChecksWrong : ChangeSpec := { name := "blakeChecks", fn := fun _ => fun
  | [d1, d2, d3] => { results := [.lit (.bool false)], args := [d1, d2, d3] }
  | _ => none }
def BlakeChecksWrongFalsely : Prop := blakeChecksRow.holds Tryd.pinned (OpenSpec.ofChange blakeChecksWrong)

/-- 'palfreylaw02.BlakeOwn': WHATEVER THE INPUT: true; the input reads as it did. -/
def blakeOwnSpec : ChangeSpec := { name := "blakeOwn", fn := fun _ => fun
  | [d1, d2, d3] => { results := [.lit (.bool true)], args := [d1, d2, d3] }
  | _ => none }
def blakeOwnRow : OpenClaim := { program := "ytdecfofjcpnilaadoor", sum := "08da3b29f76b715fe31333aa922bd2a4561cf991efa6df74241834842602a74d", func := "palfrey/palfreylaw02.BlakeOwn", spec := "blakeOwn", named := ["palfrey/blake.initial"], apart := false, laid := [("palfrey/blake.initial", laid_palfrey_blake_initial)] }
def BlakeOwnSaid : Prop := blakeOwnRow.holds Tryd.pinned (OpenSpec.ofChange blakeOwnSpec)

/-- ITS FALSE NEIGHBOUR: 'it returns false'. Refute it at one input. -/
def blakeOwnWrong : ChangeSpec := { name := "blakeOwn", fn := fun _ => fun
  | [d1, d2, d3] => { results := [.lit (.bool false)], args := [d1, d2, d3] }
  | _ => none }
def BlakeOwnWrongFalsely : Prop := blakeOwnRow.holds Tryd.pinned (OpenSpec.ofChange blakeOwnWrong)

/-- 'palfreylaw02.BlakeKeys': WHATEVER THE INPUT: true; the input reads as it did. -/
def blakeKeysSpec : ChangeSpec := { name := "blakeKeys", fn := fun _ => fun
  | [d1, d2, d3] => { results := [.lit (.bool true)], args := [d1, d2, d3] }
  | _ => none }
def blakeKeysRow : OpenClaim := { program := "ytdecfofjcpnilaadoor", sum := "08da3b29f76b715fe31333aa922bd2a4561cf991efa6df74241834842602a74d", func := "palfrey/palfreylaw02.BlakeKeys", spec := "blakeKeys", named := ["palfrey/blake.initial"], apart := false, laid := [("palfrey/blake.initial", laid_palfrey_blake_initial)] }
def BlakeKeysSaid : Prop := blakeKeysRow.holds Tryd.pinned (OpenSpec.ofChange blakeKeysSpec)

/-- ITS FALSE NEIGHBOUR: 'it returns false'. Refute it at one input. -/
def blakeKeysWrong : ChangeSpec := { name := "blakeKeys", fn := fun _ => fun
  | [d1, d2, d3] => { results := [.lit (.bool false)], args := [d1, d2, d3] }
  | _ => none }
def BlakeKeysWrongFalsely : Prop := blakeKeysRow.holds Tryd.pinned (OpenSpec.ofChange blakeKeysWrong)

/- THE SECOND FORM. 'bulk': how many values and letters a reading holds, each counted each time it is reached (what is shared counts as often as it is met; a slice's spare places count too). A statement '..UptoSaid' is the law's where the arguments, and the package variables that the reading takes, are together of bulk at most 1048576: NARROWER than '..Said'. Prove '..Said' where nothing that the law and all that it calls make is longer than what came in: it says more and counts as full. Else prove '..UptoSaid'. A law counts once. -/
mutual
def uptoBulk {H : Type} : DataW H → Nat
  | .lit (.string bytes) => bytes.length + 1
  | .lit _ => 1
  | .nil => 1
  | .ptr d => uptoBulk d + 1
  | .slice elems spare => uptoBulkAll elems + uptoBulkAll spare + 1
  | .agg parts => uptoBulkAll parts + 1
  | .iface _ d => uptoBulk d + 1
  | .map entries => uptoBulkEntries entries + 1
  | .held _ => 1
def uptoBulkAll {H : Type} : List (DataW H) → Nat
  | [] => 0
  | d :: r => uptoBulk d + uptoBulkAll r
def uptoBulkEntries {H : Type} : List (Lit × DataW H) → Nat
  | [] => 0
  | x :: r => uptoBulkEntry x + uptoBulkEntries r
def uptoBulkEntry {H : Type} : Lit × DataW H → Nat
  | (.string bytes, d) => bytes.length + uptoBulk d + 1
  | (_, d) => uptoBulk d + 1
 end
def uptoSmall : (H : Type) → List (DataW H) → Bool := fun _ ds => decide (uptoBulkAll ds ≤ 1048576)
def OpenSpec.upto (s : _root_.Go.ChangeSpec) : _root_.Go.OpenSpec := { _root_.Go.OpenSpec.ofChange s with cond := some uptoSmall }

/-- 'palfreylaw02.BlakeSums', WHERE WHAT IT READS IS OF BULK AT MOST 1048576: true; the input reads as it did. -/
def blakeSumsUptoRow : OpenClaim := { program := "ytdecfofjcpnilaadoor", sum := "08da3b29f76b715fe31333aa922bd2a4561cf991efa6df74241834842602a74d", func := "palfrey/palfreylaw02.BlakeSums", spec := "blakeSums", named := ["palfrey/blake.initial"], apart := false, laid := [("palfrey/blake.initial", laid_palfrey_blake_initial)], narrowed := true }
def BlakeSumsUptoSaid : Prop := blakeSumsUptoRow.holds Tryd.pinned (OpenSpec.upto blakeSumsSpec)

/-- 'palfreylaw02.BlakeChecks', WHERE WHAT IT READS IS OF BULK AT MOST 1048576: true; the input reads as it did. -/
def blakeChecksUptoRow : OpenClaim := { program := "ytdecfofjcpnilaadoor", sum := "08da3b29f76b715fe31333aa922bd2a4561cf991efa6df74241834842602a74d", func := "palfrey/palfreylaw02.BlakeChecks", spec := "blakeChecks", named := ["palfrey/blake.initial"], apart := false, laid := [("palfrey/blake.initial", laid_palfrey_blake_initial)], narrowed := true }
def BlakeChecksUptoSaid : Prop := blakeChecksUptoRow.holds Tryd.pinned (OpenSpec.upto blakeChecksSpec)

/-- 'palfreylaw02.BlakeOwn', WHERE WHAT IT READS IS OF BULK AT MOST 1048576: true; the input reads as it did. -/
def blakeOwnUptoRow : OpenClaim := { program := "ytdecfofjcpnilaadoor", sum := "08da3b29f76b715fe31333aa922bd2a4561cf991efa6df74241834842602a74d", func := "palfrey/palfreylaw02.BlakeOwn", spec := "blakeOwn", named := ["palfrey/blake.initial"], apart := false, laid := [("palfrey/blake.initial", laid_palfrey_blake_initial)], narrowed := true }
def BlakeOwnUptoSaid : Prop := blakeOwnUptoRow.holds Tryd.pinned (OpenSpec.upto blakeOwnSpec)

/-- 'palfreylaw02.BlakeKeys', WHERE WHAT IT READS IS OF BULK AT MOST 1048576: true; the input reads as it did. -/
def blakeKeysUptoRow : OpenClaim := { program := "ytdecfofjcpnilaadoor", sum := "08da3b29f76b715fe31333aa922bd2a4561cf991efa6df74241834842602a74d", func := "palfrey/palfreylaw02.BlakeKeys", spec := "blakeKeys", named := ["palfrey/blake.initial"], apart := false, laid := [("palfrey/blake.initial", laid_palfrey_blake_initial)], narrowed := true }
def BlakeKeysUptoSaid : Prop := blakeKeysUptoRow.holds Tryd.pinned (OpenSpec.upto blakeKeysSpec)

end Rows
end Go.Proofs.YtdecfofjcpnilaaDoor
