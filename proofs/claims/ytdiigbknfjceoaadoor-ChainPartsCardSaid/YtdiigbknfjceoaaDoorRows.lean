/-
  NARROWER THAN 'FOR EVERY INPUT', by the rows' own cells (each row's printed sentence says how): BlakeSums: laid · BlakeKeys: laid · KdfDraws: laid · KdfKeys: laid · KdfFewer: laid · KdfFirst: laid · KdfDrawn: laid · ChainSteps: laid · ChainParts: laid · ChainOne: laid · ChainRoots: laid · CommitOne: laid.
  DERIVED. THE GIVEN ROWS OF THIS SEAT. 12 by the template 'for every input the law returns true; each argument reads behind the call as it read before'; 0 by the template 'total and deterministic' (their statements: YtdiigbknfjceoaaDoorTotals.lean).
  GIVEN WITH THE SEED: the statements are not yours to turn. If you find one false, say at which input.
  Laid BY PROGRAM, IN A SANDBOX (cutbox-rows.mjs): the forced cells as the released guide's own fill.sh prints them over the translation bc6f2f2d2e50aae3… (all of the seat's roots in one cut). By AI agents, Wed Nov 11 2026. No macro, syntax, notation, axiom, sorry.
-/
import Derived.Test.YtdiigbknfjceoaaDoorChecked
import GoSem.Claim
import GoSem.ClaimJoined
import GoSem.ClaimMapViews
import Derived.JoinedTies
import Derived.KernelRfl
namespace Go.Proofs.YtdiigbknfjceoaaDoor
/- THE CELL 'sum', in the pinned program and in every row, IS THE sha256 OF THE DUMP (.gsa) THAT YtdiigbknfjceoaaDoorProg.lean LOADS. Nothing in Lean hashes anything: it is a label: what it is worth is what the hold of that sum in a sandbox is worth. -/
noncomputable def Tryd.pinned : Pinned := { name := "ytdiigbknfjceoaadoor", sum := "bc6f2f2d2e50aae3252c25287e08852da5e2f214a29d2614faf16847e2928d04", checked := Tryd.checked }
namespace Rows
def none {H : Type} : Left H := { results := [], args := [] }

/- WHAT THE LISTED PACKAGE-LEVEL VARIABLES READ AS WHEN THE CALL BEGINS. Each datum BY PROGRAM (the guide's laid-datum.mjs) off the statement by which the dump's own 'gosem.cut.vars' lays the variable. In a bare row this is a premise. The card (YtdiigbknfjceoaaDoorCards.lean) ties it to the program's text. -/
def laid_palfrey_blake_initial {H : Type} : DataW H := .agg [.lit (.int .u32 1779033703), .lit (.int .u32 3144134277), .lit (.int .u32 1013904242), .lit (.int .u32 2773480762), .lit (.int .u32 1359893119), .lit (.int .u32 2600822924), .lit (.int .u32 528734635), .lit (.int .u32 1541459225)]

/-- 'palfreylaw02.BlakeSums': WHATEVER THE INPUT: true; the input reads as it did. -/
def blakeSumsSpec : ChangeSpec := { name := "blakeSums", fn := fun _ => fun
  | [d1, d2] => { results := [.lit (.bool true)], args := [d1, d2] }
  | _ => none }
def blakeSumsRow : OpenClaim := { program := "ytdiigbknfjceoaadoor", sum := "bc6f2f2d2e50aae3252c25287e08852da5e2f214a29d2614faf16847e2928d04", func := "palfrey/palfreylaw02.BlakeSums", spec := "blakeSums", named := ["palfrey/blake.initial"], apart := false, laid := [("palfrey/blake.initial", laid_palfrey_blake_initial)] }
def BlakeSumsSaid : Prop := blakeSumsRow.holds Tryd.pinned (OpenSpec.ofChange blakeSumsSpec)

/-- ITS FALSE NEIGHBOUR: 'it returns false'. Refute it at one input. -/
def blakeSumsWrong : ChangeSpec := { name := "blakeSums", fn := fun _ => fun
  | [d1, d2] => { results := [.lit (.bool false)], args := [d1, d2] }
  | _ => none }
def BlakeSumsWrongFalsely : Prop := blakeSumsRow.holds Tryd.pinned (OpenSpec.ofChange blakeSumsWrong)

/-- 'palfreylaw02.BlakeKeys': WHATEVER THE INPUT: true; the input reads as it did. -/
def blakeKeysSpec : ChangeSpec := { name := "blakeKeys", fn := fun _ => fun
  | [d1, d2, d3] => { results := [.lit (.bool true)], args := [d1, d2, d3] }
  | _ => none }
def blakeKeysRow : OpenClaim := { program := "ytdiigbknfjceoaadoor", sum := "bc6f2f2d2e50aae3252c25287e08852da5e2f214a29d2614faf16847e2928d04", func := "palfrey/palfreylaw02.BlakeKeys", spec := "blakeKeys", named := ["palfrey/blake.initial"], apart := false, laid := [("palfrey/blake.initial", laid_palfrey_blake_initial)] }
def BlakeKeysSaid : Prop := blakeKeysRow.holds Tryd.pinned (OpenSpec.ofChange blakeKeysSpec)

/-- ITS FALSE NEIGHBOUR: 'it returns false'. Refute it at one input. -/
def blakeKeysWrong : ChangeSpec := { name := "blakeKeys", fn := fun _ => fun
  | [d1, d2, d3] => { results := [.lit (.bool false)], args := [d1, d2, d3] }
  | _ => none }
def BlakeKeysWrongFalsely : Prop := blakeKeysRow.holds Tryd.pinned (OpenSpec.ofChange blakeKeysWrong)

/-- 'palfreylaw03.KdfDraws': WHATEVER THE INPUT: true; the input reads as it did. -/
def kdfDrawsSpec : ChangeSpec := { name := "kdfDraws", fn := fun _ => fun
  | [d1, d2, d3] => { results := [.lit (.bool true)], args := [d1, d2, d3] }
  | _ => none }
def kdfDrawsRow : OpenClaim := { program := "ytdiigbknfjceoaadoor", sum := "bc6f2f2d2e50aae3252c25287e08852da5e2f214a29d2614faf16847e2928d04", func := "palfrey/palfreylaw03.KdfDraws", spec := "kdfDraws", unfollowed := true, recurses := true, named := ["palfrey/blake.initial"], apart := false, laid := [("palfrey/blake.initial", laid_palfrey_blake_initial)] }
def KdfDrawsSaid : Prop := kdfDrawsRow.holds Tryd.pinned (OpenSpec.ofChange kdfDrawsSpec)

/-- ITS FALSE NEIGHBOUR: 'it returns false'. Refute it at one input. -/
def kdfDrawsWrong : ChangeSpec := { name := "kdfDraws", fn := fun _ => fun
  | [d1, d2, d3] => { results := [.lit (.bool false)], args := [d1, d2, d3] }
  | _ => none }
def KdfDrawsWrongFalsely : Prop := kdfDrawsRow.holds Tryd.pinned (OpenSpec.ofChange kdfDrawsWrong)

/-- 'palfreylaw03.KdfKeys': WHATEVER THE INPUT: true; the input reads as it did. -/
def kdfKeysSpec : ChangeSpec := { name := "kdfKeys", fn := fun _ => fun
  | [d1, d2] => { results := [.lit (.bool true)], args := [d1, d2] }
  | _ => none }
def kdfKeysRow : OpenClaim := { program := "ytdiigbknfjceoaadoor", sum := "bc6f2f2d2e50aae3252c25287e08852da5e2f214a29d2614faf16847e2928d04", func := "palfrey/palfreylaw03.KdfKeys", spec := "kdfKeys", unfollowed := true, recurses := true, named := ["palfrey/blake.initial"], apart := false, laid := [("palfrey/blake.initial", laid_palfrey_blake_initial)] }
def KdfKeysSaid : Prop := kdfKeysRow.holds Tryd.pinned (OpenSpec.ofChange kdfKeysSpec)

/-- ITS FALSE NEIGHBOUR: 'it returns false'. Refute it at one input. -/
def kdfKeysWrong : ChangeSpec := { name := "kdfKeys", fn := fun _ => fun
  | [d1, d2] => { results := [.lit (.bool false)], args := [d1, d2] }
  | _ => none }
def KdfKeysWrongFalsely : Prop := kdfKeysRow.holds Tryd.pinned (OpenSpec.ofChange kdfKeysWrong)

/-- 'palfreylaw03.KdfFewer': WHATEVER THE INPUT: true; the input reads as it did. -/
def kdfFewerSpec : ChangeSpec := { name := "kdfFewer", fn := fun _ => fun
  | [d1, d2, d3] => { results := [.lit (.bool true)], args := [d1, d2, d3] }
  | _ => none }
def kdfFewerRow : OpenClaim := { program := "ytdiigbknfjceoaadoor", sum := "bc6f2f2d2e50aae3252c25287e08852da5e2f214a29d2614faf16847e2928d04", func := "palfrey/palfreylaw03.KdfFewer", spec := "kdfFewer", unfollowed := true, recurses := true, named := ["palfrey/blake.initial"], apart := false, laid := [("palfrey/blake.initial", laid_palfrey_blake_initial)] }
def KdfFewerSaid : Prop := kdfFewerRow.holds Tryd.pinned (OpenSpec.ofChange kdfFewerSpec)

/-- ITS FALSE NEIGHBOUR: 'it returns false'. Refute it at one input. -/
def kdfFewerWrong : ChangeSpec := { name := "kdfFewer", fn := fun _ => fun
  | [d1, d2, d3] => { results := [.lit (.bool false)], args := [d1, d2, d3] }
  | _ => none }
def KdfFewerWrongFalsely : Prop := kdfFewerRow.holds Tryd.pinned (OpenSpec.ofChange kdfFewerWrong)

/-- 'palfreylaw03.KdfFirst': WHATEVER THE INPUT: true; the input reads as it did. -/
def kdfFirstSpec : ChangeSpec := { name := "kdfFirst", fn := fun _ => fun
  | [d1, d2, d3] => { results := [.lit (.bool true)], args := [d1, d2, d3] }
  | _ => none }
def kdfFirstRow : OpenClaim := { program := "ytdiigbknfjceoaadoor", sum := "bc6f2f2d2e50aae3252c25287e08852da5e2f214a29d2614faf16847e2928d04", func := "palfrey/palfreylaw03.KdfFirst", spec := "kdfFirst", unfollowed := true, recurses := true, named := ["palfrey/blake.initial"], apart := false, laid := [("palfrey/blake.initial", laid_palfrey_blake_initial)] }
def KdfFirstSaid : Prop := kdfFirstRow.holds Tryd.pinned (OpenSpec.ofChange kdfFirstSpec)

/-- ITS FALSE NEIGHBOUR: 'it returns false'. Refute it at one input. -/
def kdfFirstWrong : ChangeSpec := { name := "kdfFirst", fn := fun _ => fun
  | [d1, d2, d3] => { results := [.lit (.bool false)], args := [d1, d2, d3] }
  | _ => none }
def KdfFirstWrongFalsely : Prop := kdfFirstRow.holds Tryd.pinned (OpenSpec.ofChange kdfFirstWrong)

/-- 'palfreylaw03.KdfDrawn': WHATEVER THE INPUT: true; the input reads as it did. -/
def kdfDrawnSpec : ChangeSpec := { name := "kdfDrawn", fn := fun _ => fun
  | [d1, d2] => { results := [.lit (.bool true)], args := [d1, d2] }
  | _ => none }
def kdfDrawnRow : OpenClaim := { program := "ytdiigbknfjceoaadoor", sum := "bc6f2f2d2e50aae3252c25287e08852da5e2f214a29d2614faf16847e2928d04", func := "palfrey/palfreylaw03.KdfDrawn", spec := "kdfDrawn", unfollowed := true, recurses := true, named := ["palfrey/blake.initial"], apart := false, laid := [("palfrey/blake.initial", laid_palfrey_blake_initial)] }
def KdfDrawnSaid : Prop := kdfDrawnRow.holds Tryd.pinned (OpenSpec.ofChange kdfDrawnSpec)

/-- ITS FALSE NEIGHBOUR: 'it returns false'. Refute it at one input. -/
def kdfDrawnWrong : ChangeSpec := { name := "kdfDrawn", fn := fun _ => fun
  | [d1, d2] => { results := [.lit (.bool false)], args := [d1, d2] }
  | _ => none }
def KdfDrawnWrongFalsely : Prop := kdfDrawnRow.holds Tryd.pinned (OpenSpec.ofChange kdfDrawnWrong)

/-- 'palfreylaw10.ChainSteps': WHATEVER THE INPUT: true; the input reads as it did. -/
def chainStepsSpec : ChangeSpec := { name := "chainSteps", fn := fun _ => fun
  | [d1, d2, d3] => { results := [.lit (.bool true)], args := [d1, d2, d3] }
  | _ => none }
def chainStepsRow : OpenClaim := { program := "ytdiigbknfjceoaadoor", sum := "bc6f2f2d2e50aae3252c25287e08852da5e2f214a29d2614faf16847e2928d04", func := "palfrey/palfreylaw10.ChainSteps", spec := "chainSteps", unfollowed := true, recurses := true, named := ["palfrey/blake.initial"], apart := false, laid := [("palfrey/blake.initial", laid_palfrey_blake_initial)] }
def ChainStepsSaid : Prop := chainStepsRow.holds Tryd.pinned (OpenSpec.ofChange chainStepsSpec)

/-- ITS FALSE NEIGHBOUR: 'it returns false'. Refute it at one input. -/
def chainStepsWrong : ChangeSpec := { name := "chainSteps", fn := fun _ => fun
  | [d1, d2, d3] => { results := [.lit (.bool false)], args := [d1, d2, d3] }
  | _ => none }
def ChainStepsWrongFalsely : Prop := chainStepsRow.holds Tryd.pinned (OpenSpec.ofChange chainStepsWrong)

/-- 'palfreylaw10.ChainParts': WHATEVER THE INPUT: true; the input reads as it did. -/
def chainPartsSpec : ChangeSpec := { name := "chainParts", fn := fun _ => fun
  | [d1, d2] => { results := [.lit (.bool true)], args := [d1, d2] }
  | _ => none }
def chainPartsRow : OpenClaim := { program := "ytdiigbknfjceoaadoor", sum := "bc6f2f2d2e50aae3252c25287e08852da5e2f214a29d2614faf16847e2928d04", func := "palfrey/palfreylaw10.ChainParts", spec := "chainParts", unfollowed := true, recurses := true, named := ["palfrey/blake.initial"], apart := false, laid := [("palfrey/blake.initial", laid_palfrey_blake_initial)] }
def ChainPartsSaid : Prop := chainPartsRow.holds Tryd.pinned (OpenSpec.ofChange chainPartsSpec)

/-- ITS FALSE NEIGHBOUR: 'it returns false'. Refute it at one input. -/
def chainPartsWrong : ChangeSpec := { name := "chainParts", fn := fun _ => fun
  | [d1, d2] => { results := [.lit (.bool false)], args := [d1, d2] }
  | _ => none }
def ChainPartsWrongFalsely : Prop := chainPartsRow.holds Tryd.pinned (OpenSpec.ofChange chainPartsWrong)

/-- 'palfreylaw10.ChainOne': WHATEVER THE INPUT: true; the input reads as it did. -/
def chainOneSpec : ChangeSpec := { name := "chainOne", fn := fun _ => fun
  | [d1, d2] => { results := [.lit (.bool true)], args := [d1, d2] }
  | _ => none }
def chainOneRow : OpenClaim := { program := "ytdiigbknfjceoaadoor", sum := "bc6f2f2d2e50aae3252c25287e08852da5e2f214a29d2614faf16847e2928d04", func := "palfrey/palfreylaw10.ChainOne", spec := "chainOne", unfollowed := true, recurses := true, named := ["palfrey/blake.initial"], apart := false, laid := [("palfrey/blake.initial", laid_palfrey_blake_initial)] }
def ChainOneSaid : Prop := chainOneRow.holds Tryd.pinned (OpenSpec.ofChange chainOneSpec)

/-- ITS FALSE NEIGHBOUR: 'it returns false'. Refute it at one input. -/
def chainOneWrong : ChangeSpec := { name := "chainOne", fn := fun _ => fun
  | [d1, d2] => { results := [.lit (.bool false)], args := [d1, d2] }
  | _ => none }
def ChainOneWrongFalsely : Prop := chainOneRow.holds Tryd.pinned (OpenSpec.ofChange chainOneWrong)

/-- 'palfreylaw10.ChainRoots': WHATEVER THE INPUT: true; the input reads as it did. -/
def chainRootsSpec : ChangeSpec := { name := "chainRoots", fn := fun _ => fun
  | [d1, d2] => { results := [.lit (.bool true)], args := [d1, d2] }
  | _ => none }
def chainRootsRow : OpenClaim := { program := "ytdiigbknfjceoaadoor", sum := "bc6f2f2d2e50aae3252c25287e08852da5e2f214a29d2614faf16847e2928d04", func := "palfrey/palfreylaw10.ChainRoots", spec := "chainRoots", unfollowed := true, recurses := true, named := ["palfrey/blake.initial"], apart := false, laid := [("palfrey/blake.initial", laid_palfrey_blake_initial)] }
def ChainRootsSaid : Prop := chainRootsRow.holds Tryd.pinned (OpenSpec.ofChange chainRootsSpec)

/-- ITS FALSE NEIGHBOUR: 'it returns false'. Refute it at one input. -/
def chainRootsWrong : ChangeSpec := { name := "chainRoots", fn := fun _ => fun
  | [d1, d2] => { results := [.lit (.bool false)], args := [d1, d2] }
  | _ => none }
def ChainRootsWrongFalsely : Prop := chainRootsRow.holds Tryd.pinned (OpenSpec.ofChange chainRootsWrong)

/-- 'palfreylaw14.CommitOne': WHATEVER THE INPUT: true; the input reads as it did. -/
def commitOneSpec : ChangeSpec := { name := "commitOne", fn := fun _ => fun
  | [d1, d2, d3] => { results := [.lit (.bool true)], args := [d1, d2, d3] }
  | _ => none }
def commitOneRow : OpenClaim := { program := "ytdiigbknfjceoaadoor", sum := "bc6f2f2d2e50aae3252c25287e08852da5e2f214a29d2614faf16847e2928d04", func := "palfrey/palfreylaw14.CommitOne", spec := "commitOne", named := ["palfrey/blake.initial"], apart := false, laid := [("palfrey/blake.initial", laid_palfrey_blake_initial)] }
def CommitOneSaid : Prop := commitOneRow.holds Tryd.pinned (OpenSpec.ofChange commitOneSpec)

/-- ITS FALSE NEIGHBOUR: 'it returns false'. Refute it at one input. -/
def commitOneWrong : ChangeSpec := { name := "commitOne", fn := fun _ => fun
  | [d1, d2, d3] => { results := [.lit (.bool false)], args := [d1, d2, d3] }
  | _ => none }
def CommitOneWrongFalsely : Prop := commitOneRow.holds Tryd.pinned (OpenSpec.ofChange commitOneWrong)

/- THE SECOND FORM. 'bulk': how many values and letters a reading holds, each counted each time it is reached (what is shared counts as often as it is met; a slice's spare places count too). A statement '..UptoSaid' is the law's where the arguments, and the package variables that the reading takes, are together of bulk at most 1048576: NARROWER than '..Said'. Prove '..Said' where nothing that the law and all that it calls make is longer than what came in: it says more and counts as full. Else prove '..UptoSaid'. A law counts once. -/
mutual
def uptoBulk {H : Type} : DataW H → Nat
  | .lit (.string bytes) => bytes.length + 1
  | .lit _ => 1
  | .nil => 1
  | .ptr d => uptoBulk d + 1
  | .slice elems spare => uptoBulkAll elems + uptoBulkAll spare + 1
  | .agg parts => uptoBulkAll parts + 1
  | .iface _ d => uptoBulk d + 1
  | .map entries => uptoBulkEntries entries + 1
  | .held _ => 1
def uptoBulkAll {H : Type} : List (DataW H) → Nat
  | [] => 0
  | d :: r => uptoBulk d + uptoBulkAll r
def uptoBulkEntries {H : Type} : List (Lit × DataW H) → Nat
  | [] => 0
  | x :: r => uptoBulkEntry x + uptoBulkEntries r
def uptoBulkEntry {H : Type} : Lit × DataW H → Nat
  | (.string bytes, d) => bytes.length + uptoBulk d + 1
  | (_, d) => uptoBulk d + 1
 end
def uptoSmall : (H : Type) → List (DataW H) → Bool := fun _ ds => decide (uptoBulkAll ds ≤ 1048576)
def OpenSpec.upto (s : _root_.Go.ChangeSpec) : _root_.Go.OpenSpec := { _root_.Go.OpenSpec.ofChange s with cond := some uptoSmall }

/-- 'palfreylaw02.BlakeSums', WHERE WHAT IT READS IS OF BULK AT MOST 1048576: true; the input reads as it did. -/
def blakeSumsUptoRow : OpenClaim := { program := "ytdiigbknfjceoaadoor", sum := "bc6f2f2d2e50aae3252c25287e08852da5e2f214a29d2614faf16847e2928d04", func := "palfrey/palfreylaw02.BlakeSums", spec := "blakeSums", named := ["palfrey/blake.initial"], apart := false, laid := [("palfrey/blake.initial", laid_palfrey_blake_initial)], narrowed := true }
def BlakeSumsUptoSaid : Prop := blakeSumsUptoRow.holds Tryd.pinned (OpenSpec.upto blakeSumsSpec)

/-- 'palfreylaw02.BlakeKeys', WHERE WHAT IT READS IS OF BULK AT MOST 1048576: true; the input reads as it did. -/
def blakeKeysUptoRow : OpenClaim := { program := "ytdiigbknfjceoaadoor", sum := "bc6f2f2d2e50aae3252c25287e08852da5e2f214a29d2614faf16847e2928d04", func := "palfrey/palfreylaw02.BlakeKeys", spec := "blakeKeys", named := ["palfrey/blake.initial"], apart := false, laid := [("palfrey/blake.initial", laid_palfrey_blake_initial)], narrowed := true }
def BlakeKeysUptoSaid : Prop := blakeKeysUptoRow.holds Tryd.pinned (OpenSpec.upto blakeKeysSpec)

/-- 'palfreylaw03.KdfDraws', WHERE WHAT IT READS IS OF BULK AT MOST 1048576: true; the input reads as it did. -/
def kdfDrawsUptoRow : OpenClaim := { program := "ytdiigbknfjceoaadoor", sum := "bc6f2f2d2e50aae3252c25287e08852da5e2f214a29d2614faf16847e2928d04", func := "palfrey/palfreylaw03.KdfDraws", spec := "kdfDraws", unfollowed := true, recurses := true, named := ["palfrey/blake.initial"], apart := false, laid := [("palfrey/blake.initial", laid_palfrey_blake_initial)], narrowed := true }
def KdfDrawsUptoSaid : Prop := kdfDrawsUptoRow.holds Tryd.pinned (OpenSpec.upto kdfDrawsSpec)

/-- 'palfreylaw03.KdfKeys', WHERE WHAT IT READS IS OF BULK AT MOST 1048576: true; the input reads as it did. -/
def kdfKeysUptoRow : OpenClaim := { program := "ytdiigbknfjceoaadoor", sum := "bc6f2f2d2e50aae3252c25287e08852da5e2f214a29d2614faf16847e2928d04", func := "palfrey/palfreylaw03.KdfKeys", spec := "kdfKeys", unfollowed := true, recurses := true, named := ["palfrey/blake.initial"], apart := false, laid := [("palfrey/blake.initial", laid_palfrey_blake_initial)], narrowed := true }
def KdfKeysUptoSaid : Prop := kdfKeysUptoRow.holds Tryd.pinned (OpenSpec.upto kdfKeysSpec)

/-- 'palfreylaw03.KdfFewer', WHERE WHAT IT READS IS OF BULK AT MOST 1048576: true; the input reads as it did. -/
def kdfFewerUptoRow : OpenClaim := { program := "ytdiigbknfjceoaadoor", sum := "bc6f2f2d2e50aae3252c25287e08852da5e2f214a29d2614faf16847e2928d04", func := "palfrey/palfreylaw03.KdfFewer", spec := "kdfFewer", unfollowed := true, recurses := true, named := ["palfrey/blake.initial"], apart := false, laid := [("palfrey/blake.initial", laid_palfrey_blake_initial)], narrowed := true }
def KdfFewerUptoSaid : Prop := kdfFewerUptoRow.holds Tryd.pinned (OpenSpec.upto kdfFewerSpec)

/-- 'palfreylaw03.KdfFirst', WHERE WHAT IT READS IS OF BULK AT MOST 1048576: true; the input reads as it did. -/
def kdfFirstUptoRow : OpenClaim := { program := "ytdiigbknfjceoaadoor", sum := "bc6f2f2d2e50aae3252c25287e08852da5e2f214a29d2614faf16847e2928d04", func := "palfrey/palfreylaw03.KdfFirst", spec := "kdfFirst", unfollowed := true, recurses := true, named := ["palfrey/blake.initial"], apart := false, laid := [("palfrey/blake.initial", laid_palfrey_blake_initial)], narrowed := true }
def KdfFirstUptoSaid : Prop := kdfFirstUptoRow.holds Tryd.pinned (OpenSpec.upto kdfFirstSpec)

/-- 'palfreylaw03.KdfDrawn', WHERE WHAT IT READS IS OF BULK AT MOST 1048576: true; the input reads as it did. -/
def kdfDrawnUptoRow : OpenClaim := { program := "ytdiigbknfjceoaadoor", sum := "bc6f2f2d2e50aae3252c25287e08852da5e2f214a29d2614faf16847e2928d04", func := "palfrey/palfreylaw03.KdfDrawn", spec := "kdfDrawn", unfollowed := true, recurses := true, named := ["palfrey/blake.initial"], apart := false, laid := [("palfrey/blake.initial", laid_palfrey_blake_initial)], narrowed := true }
def KdfDrawnUptoSaid : Prop := kdfDrawnUptoRow.holds Tryd.pinned (OpenSpec.upto kdfDrawnSpec)

/-- 'palfreylaw10.ChainSteps', WHERE WHAT IT READS IS OF BULK AT MOST 1048576: true; the input reads as it did. -/
def chainStepsUptoRow : OpenClaim := { program := "ytdiigbknfjceoaadoor", sum := "bc6f2f2d2e50aae3252c25287e08852da5e2f214a29d2614faf16847e2928d04", func := "palfrey/palfreylaw10.ChainSteps", spec := "chainSteps", unfollowed := true, recurses := true, named := ["palfrey/blake.initial"], apart := false, laid := [("palfrey/blake.initial", laid_palfrey_blake_initial)], narrowed := true }
def ChainStepsUptoSaid : Prop := chainStepsUptoRow.holds Tryd.pinned (OpenSpec.upto chainStepsSpec)

/-- 'palfreylaw10.ChainParts', WHERE WHAT IT READS IS OF BULK AT MOST 1048576: true; the input reads as it did. -/
def chainPartsUptoRow : OpenClaim := { program := "ytdiigbknfjceoaadoor", sum := "bc6f2f2d2e50aae3252c25287e08852da5e2f214a29d2614faf16847e2928d04", func := "palfrey/palfreylaw10.ChainParts", spec := "chainParts", unfollowed := true, recurses := true, named := ["palfrey/blake.initial"], apart := false, laid := [("palfrey/blake.initial", laid_palfrey_blake_initial)], narrowed := true }
def ChainPartsUptoSaid : Prop := chainPartsUptoRow.holds Tryd.pinned (OpenSpec.upto chainPartsSpec)

/-- 'palfreylaw10.ChainOne', WHERE WHAT IT READS IS OF BULK AT MOST 1048576: true; the input reads as it did. -/
def chainOneUptoRow : OpenClaim := { program := "ytdiigbknfjceoaadoor", sum := "bc6f2f2d2e50aae3252c25287e08852da5e2f214a29d2614faf16847e2928d04", func := "palfrey/palfreylaw10.ChainOne", spec := "chainOne", unfollowed := true, recurses := true, named := ["palfrey/blake.initial"], apart := false, laid := [("palfrey/blake.initial", laid_palfrey_blake_initial)], narrowed := true }
def ChainOneUptoSaid : Prop := chainOneUptoRow.holds Tryd.pinned (OpenSpec.upto chainOneSpec)

/-- 'palfreylaw10.ChainRoots', WHERE WHAT IT READS IS OF BULK AT MOST 1048576: true; the input reads as it did. -/
def chainRootsUptoRow : OpenClaim := { program := "ytdiigbknfjceoaadoor", sum := "bc6f2f2d2e50aae3252c25287e08852da5e2f214a29d2614faf16847e2928d04", func := "palfrey/palfreylaw10.ChainRoots", spec := "chainRoots", unfollowed := true, recurses := true, named := ["palfrey/blake.initial"], apart := false, laid := [("palfrey/blake.initial", laid_palfrey_blake_initial)], narrowed := true }
def ChainRootsUptoSaid : Prop := chainRootsUptoRow.holds Tryd.pinned (OpenSpec.upto chainRootsSpec)

/-- 'palfreylaw14.CommitOne', WHERE WHAT IT READS IS OF BULK AT MOST 1048576: true; the input reads as it did. -/
def commitOneUptoRow : OpenClaim := { program := "ytdiigbknfjceoaadoor", sum := "bc6f2f2d2e50aae3252c25287e08852da5e2f214a29d2614faf16847e2928d04", func := "palfrey/palfreylaw14.CommitOne", spec := "commitOne", named := ["palfrey/blake.initial"], apart := false, laid := [("palfrey/blake.initial", laid_palfrey_blake_initial)], narrowed := true }
def CommitOneUptoSaid : Prop := commitOneUptoRow.holds Tryd.pinned (OpenSpec.upto commitOneSpec)

end Rows
end Go.Proofs.YtdiigbknfjceoaaDoor
