/-
  No cell of these rows narrows 'for every input' (looked for: loops, veiled, ifaces, maps, wideKeys, modest, calm, conditions, laid).
  DERIVED. THE GIVEN ROWS OF THIS SEAT. 9 by the template 'for every input the law returns true; each argument reads behind the call as it read before'; 0 by the template 'total and deterministic' (their statements: YtojgmgghlkpfoaaTotals.lean).
  GIVEN WITH THE SEED: the statements are not yours to turn. If you find one false, say at which input.
  Laid BY PROGRAM, IN A SANDBOX (cutbox-rows.mjs): the forced cells as the released guide's own fill.sh prints them over the translation 79c1255a6743473d… (all of the seat's roots in one cut). By AI agents, Wed Nov 11 2026. No macro, syntax, notation, axiom, sorry.
-/
import Derived.Test.YtojgmgghlkpfoaaChecked
import GoSem.Claim
import GoSem.ClaimJoined
import GoSem.ClaimMapViews
import Derived.JoinedTies
import Derived.KernelRfl
namespace Go.Proofs.Ytojgmgghlkpfoaa
/- THE CELL 'sum', in the pinned program and in every row, IS THE sha256 OF THE DUMP (.gsa) THAT YtojgmgghlkpfoaaProg.lean LOADS. Nothing in Lean hashes anything: it is a label: what it is worth is what the hold of that sum in a sandbox is worth. -/
noncomputable def Try.pinned : Pinned := { name := "ytojgmgghlkpfoaa", sum := "79c1255a6743473d792e91fc04655bbde9b6b7e040a6ddb148f3895c32d74c92", checked := Try.checked }
namespace Rows
def none {H : Type} : Left H := { results := [], args := [] }

/-- 'palfreylaw12.HeadReads': WHATEVER THE INPUT: true; the input reads as it did. -/
def headReadsSpec : ChangeSpec := { name := "headReads", fn := fun _ => fun
  | [d1, d2] => { results := [.lit (.bool true)], args := [d1, d2] }
  | _ => none }
def headReadsRow : OpenClaim := { program := "ytojgmgghlkpfoaa", sum := "79c1255a6743473d792e91fc04655bbde9b6b7e040a6ddb148f3895c32d74c92", func := "palfrey/palfreylaw12.HeadReads", spec := "headReads", unfollowed := true, recurses := true, apart := false }
def HeadReadsSaid : Prop := headReadsRow.holds Try.pinned (OpenSpec.ofChange headReadsSpec)

/-- ITS FALSE NEIGHBOUR: 'it returns false'. Refute it at one input. -/
def headReadsWrong : ChangeSpec := { name := "headReads", fn := fun _ => fun
  | [d1, d2] => { results := [.lit (.bool false)], args := [d1, d2] }
  | _ => none }
def HeadReadsWrongFalsely : Prop := headReadsRow.holds Try.pinned (OpenSpec.ofChange headReadsWrong)

/-- 'palfreylaw12.HeadEnvelopes': WHATEVER THE INPUT: true; the input reads as it did. -/
def headEnvelopesSpec : ChangeSpec := { name := "headEnvelopes", fn := fun _ => fun
  | [d1, d2] => { results := [.lit (.bool true)], args := [d1, d2] }
  | _ => none }
def headEnvelopesRow : OpenClaim := { program := "ytojgmgghlkpfoaa", sum := "79c1255a6743473d792e91fc04655bbde9b6b7e040a6ddb148f3895c32d74c92", func := "palfrey/palfreylaw12.HeadEnvelopes", spec := "headEnvelopes", unfollowed := true, recurses := true, apart := false }
def HeadEnvelopesSaid : Prop := headEnvelopesRow.holds Try.pinned (OpenSpec.ofChange headEnvelopesSpec)

/-- ITS FALSE NEIGHBOUR: 'it returns false'. Refute it at one input. -/
def headEnvelopesWrong : ChangeSpec := { name := "headEnvelopes", fn := fun _ => fun
  | [d1, d2] => { results := [.lit (.bool false)], args := [d1, d2] }
  | _ => none }
def HeadEnvelopesWrongFalsely : Prop := headEnvelopesRow.holds Try.pinned (OpenSpec.ofChange headEnvelopesWrong)

/-- 'palfreylaw12.HeadBack': WHATEVER THE INPUT: true; the input reads as it did. -/
def headBackSpec : ChangeSpec := { name := "headBack", fn := fun _ => fun
  | [d1, d2] => { results := [.lit (.bool true)], args := [d1, d2] }
  | _ => none }
def headBackRow : OpenClaim := { program := "ytojgmgghlkpfoaa", sum := "79c1255a6743473d792e91fc04655bbde9b6b7e040a6ddb148f3895c32d74c92", func := "palfrey/palfreylaw12.HeadBack", spec := "headBack", unfollowed := true, recurses := true, apart := false }
def HeadBackSaid : Prop := headBackRow.holds Try.pinned (OpenSpec.ofChange headBackSpec)

/-- ITS FALSE NEIGHBOUR: 'it returns false'. Refute it at one input. -/
def headBackWrong : ChangeSpec := { name := "headBack", fn := fun _ => fun
  | [d1, d2] => { results := [.lit (.bool false)], args := [d1, d2] }
  | _ => none }
def HeadBackWrongFalsely : Prop := headBackRow.holds Try.pinned (OpenSpec.ofChange headBackWrong)

/-- 'palfreylaw12.HeadCut': WHATEVER THE INPUT: true; the input reads as it did. -/
def headCutSpec : ChangeSpec := { name := "headCut", fn := fun _ => fun
  | [d1, d2] => { results := [.lit (.bool true)], args := [d1, d2] }
  | _ => none }
def headCutRow : OpenClaim := { program := "ytojgmgghlkpfoaa", sum := "79c1255a6743473d792e91fc04655bbde9b6b7e040a6ddb148f3895c32d74c92", func := "palfrey/palfreylaw12.HeadCut", spec := "headCut", unfollowed := true, recurses := true, apart := false }
def HeadCutSaid : Prop := headCutRow.holds Try.pinned (OpenSpec.ofChange headCutSpec)

/-- ITS FALSE NEIGHBOUR: 'it returns false'. Refute it at one input. -/
def headCutWrong : ChangeSpec := { name := "headCut", fn := fun _ => fun
  | [d1, d2] => { results := [.lit (.bool false)], args := [d1, d2] }
  | _ => none }
def HeadCutWrongFalsely : Prop := headCutRow.holds Try.pinned (OpenSpec.ofChange headCutWrong)

/-- 'palfreylaw12.HeadSizes': WHATEVER THE INPUT: true; the input reads as it did. -/
def headSizesSpec : ChangeSpec := { name := "headSizes", fn := fun _ => fun
  | [d] => { results := [.lit (.bool true)], args := [d] }
  | _ => none }
def headSizesRow : OpenClaim := { program := "ytojgmgghlkpfoaa", sum := "79c1255a6743473d792e91fc04655bbde9b6b7e040a6ddb148f3895c32d74c92", func := "palfrey/palfreylaw12.HeadSizes", spec := "headSizes", unfollowed := true, recurses := true, apart := false }
def HeadSizesSaid : Prop := headSizesRow.holds Try.pinned (OpenSpec.ofChange headSizesSpec)

/-- ITS FALSE NEIGHBOUR: 'it returns false'. Refute it at one input. -/
def headSizesWrong : ChangeSpec := { name := "headSizes", fn := fun _ => fun
  | [d] => { results := [.lit (.bool false)], args := [d] }
  | _ => none }
def HeadSizesWrongFalsely : Prop := headSizesRow.holds Try.pinned (OpenSpec.ofChange headSizesWrong)

/-- 'palfreylaw19.MailboxPlays': WHATEVER THE INPUT: true; the input reads as it did. -/
def mailboxPlaysSpec : ChangeSpec := { name := "mailboxPlays", fn := fun _ => fun
  | [d] => { results := [.lit (.bool true)], args := [d] }
  | _ => none }
def mailboxPlaysRow : OpenClaim := { program := "ytojgmgghlkpfoaa", sum := "79c1255a6743473d792e91fc04655bbde9b6b7e040a6ddb148f3895c32d74c92", func := "palfrey/palfreylaw19.MailboxPlays", spec := "mailboxPlays", apart := false }
def MailboxPlaysSaid : Prop := mailboxPlaysRow.holds Try.pinned (OpenSpec.ofChange mailboxPlaysSpec)

/-- ITS FALSE NEIGHBOUR: 'it returns false'. Refute it at one input. -/
def mailboxPlaysWrong : ChangeSpec := { name := "mailboxPlays", fn := fun _ => fun
  | [d] => { results := [.lit (.bool false)], args := [d] }
  | _ => none }
def MailboxPlaysWrongFalsely : Prop := mailboxPlaysRow.holds Try.pinned (OpenSpec.ofChange mailboxPlaysWrong)

/-- 'palfreylaw19.MailboxOnce': WHATEVER THE INPUT: true; the input reads as it did. -/
def mailboxOnceSpec : ChangeSpec := { name := "mailboxOnce", fn := fun _ => fun
  | [d1, d2] => { results := [.lit (.bool true)], args := [d1, d2] }
  | _ => none }
def mailboxOnceRow : OpenClaim := { program := "ytojgmgghlkpfoaa", sum := "79c1255a6743473d792e91fc04655bbde9b6b7e040a6ddb148f3895c32d74c92", func := "palfrey/palfreylaw19.MailboxOnce", spec := "mailboxOnce", apart := false }
def MailboxOnceSaid : Prop := mailboxOnceRow.holds Try.pinned (OpenSpec.ofChange mailboxOnceSpec)

/-- ITS FALSE NEIGHBOUR: 'it returns false'. Refute it at one input. -/
def mailboxOnceWrong : ChangeSpec := { name := "mailboxOnce", fn := fun _ => fun
  | [d1, d2] => { results := [.lit (.bool false)], args := [d1, d2] }
  | _ => none }
def MailboxOnceWrongFalsely : Prop := mailboxOnceRow.holds Try.pinned (OpenSpec.ofChange mailboxOnceWrong)

/-- 'palfreylaw19.MailboxOwn': WHATEVER THE INPUT: true; the input reads as it did. -/
def mailboxOwnSpec : ChangeSpec := { name := "mailboxOwn", fn := fun _ => fun
  | [d1, d2] => { results := [.lit (.bool true)], args := [d1, d2] }
  | _ => none }
def mailboxOwnRow : OpenClaim := { program := "ytojgmgghlkpfoaa", sum := "79c1255a6743473d792e91fc04655bbde9b6b7e040a6ddb148f3895c32d74c92", func := "palfrey/palfreylaw19.MailboxOwn", spec := "mailboxOwn", apart := false }
def MailboxOwnSaid : Prop := mailboxOwnRow.holds Try.pinned (OpenSpec.ofChange mailboxOwnSpec)

/-- ITS FALSE NEIGHBOUR: 'it returns false'. Refute it at one input. -/
def mailboxOwnWrong : ChangeSpec := { name := "mailboxOwn", fn := fun _ => fun
  | [d1, d2] => { results := [.lit (.bool false)], args := [d1, d2] }
  | _ => none }
def MailboxOwnWrongFalsely : Prop := mailboxOwnRow.holds Try.pinned (OpenSpec.ofChange mailboxOwnWrong)

/-- 'palfreylaw19.MailboxOrder': WHATEVER THE INPUT: true; the input reads as it did. -/
def mailboxOrderSpec : ChangeSpec := { name := "mailboxOrder", fn := fun _ => fun
  | [d] => { results := [.lit (.bool true)], args := [d] }
  | _ => none }
def mailboxOrderRow : OpenClaim := { program := "ytojgmgghlkpfoaa", sum := "79c1255a6743473d792e91fc04655bbde9b6b7e040a6ddb148f3895c32d74c92", func := "palfrey/palfreylaw19.MailboxOrder", spec := "mailboxOrder", apart := false }
def MailboxOrderSaid : Prop := mailboxOrderRow.holds Try.pinned (OpenSpec.ofChange mailboxOrderSpec)

/-- ITS FALSE NEIGHBOUR: 'it returns false'. Refute it at one input. -/
def mailboxOrderWrong : ChangeSpec := { name := "mailboxOrder", fn := fun _ => fun
  | [d] => { results := [.lit (.bool false)], args := [d] }
  | _ => none }
def MailboxOrderWrongFalsely : Prop := mailboxOrderRow.holds Try.pinned (OpenSpec.ofChange mailboxOrderWrong)

/- THE SECOND FORM. 'bulk': how many values and letters a reading holds, each counted each time it is reached (what is shared counts as often as it is met; a slice's spare places count too). A statement '..UptoSaid' is the law's where the arguments, and the package variables that the reading takes, are together of bulk at most 1048576: NARROWER than '..Said'. Prove '..Said' where nothing that the law and all that it calls make is longer than what came in: it says more and counts as full. Else prove '..UptoSaid'. A law counts once. -/
mutual
def uptoBulk {H : Type} : DataW H → Nat
  | .lit (.string bytes) => bytes.length + 1
  | .lit _ => 1
  | .nil => 1
  | .ptr d => uptoBulk d + 1
  | .slice elems spare => uptoBulkAll elems + uptoBulkAll spare + 1
  | .agg parts => uptoBulkAll parts + 1
  | .iface _ d => uptoBulk d + 1
  | .map entries => uptoBulkEntries entries + 1
  | .held _ => 1
def uptoBulkAll {H : Type} : List (DataW H) → Nat
  | [] => 0
  | d :: r => uptoBulk d + uptoBulkAll r
def uptoBulkEntries {H : Type} : List (Lit × DataW H) → Nat
  | [] => 0
  | x :: r => uptoBulkEntry x + uptoBulkEntries r
def uptoBulkEntry {H : Type} : Lit × DataW H → Nat
  | (.string bytes, d) => bytes.length + uptoBulk d + 1
  | (_, d) => uptoBulk d + 1
 end
def uptoSmall : (H : Type) → List (DataW H) → Bool := fun _ ds => decide (uptoBulkAll ds ≤ 1048576)
def OpenSpec.upto (s : _root_.Go.ChangeSpec) : _root_.Go.OpenSpec := { _root_.Go.OpenSpec.ofChange s with cond := some uptoSmall }

/-- 'palfreylaw12.HeadReads', WHERE WHAT IT READS IS OF BULK AT MOST 1048576: true; the input reads as it did. -/
def headReadsUptoRow : OpenClaim := { program := "ytojgmgghlkpfoaa", sum := "79c1255a6743473d792e91fc04655bbde9b6b7e040a6ddb148f3895c32d74c92", func := "palfrey/palfreylaw12.HeadReads", spec := "headReads", unfollowed := true, recurses := true, apart := false, narrowed := true }
def HeadReadsUptoSaid : Prop := headReadsUptoRow.holds Try.pinned (OpenSpec.upto headReadsSpec)

/-- 'palfreylaw12.HeadEnvelopes', WHERE WHAT IT READS IS OF BULK AT MOST 1048576: true; the input reads as it did. -/
def headEnvelopesUptoRow : OpenClaim := { program := "ytojgmgghlkpfoaa", sum := "79c1255a6743473d792e91fc04655bbde9b6b7e040a6ddb148f3895c32d74c92", func := "palfrey/palfreylaw12.HeadEnvelopes", spec := "headEnvelopes", unfollowed := true, recurses := true, apart := false, narrowed := true }
def HeadEnvelopesUptoSaid : Prop := headEnvelopesUptoRow.holds Try.pinned (OpenSpec.upto headEnvelopesSpec)

/-- 'palfreylaw12.HeadBack', WHERE WHAT IT READS IS OF BULK AT MOST 1048576: true; the input reads as it did. -/
def headBackUptoRow : OpenClaim := { program := "ytojgmgghlkpfoaa", sum := "79c1255a6743473d792e91fc04655bbde9b6b7e040a6ddb148f3895c32d74c92", func := "palfrey/palfreylaw12.HeadBack", spec := "headBack", unfollowed := true, recurses := true, apart := false, narrowed := true }
def HeadBackUptoSaid : Prop := headBackUptoRow.holds Try.pinned (OpenSpec.upto headBackSpec)

/-- 'palfreylaw12.HeadCut', WHERE WHAT IT READS IS OF BULK AT MOST 1048576: true; the input reads as it did. -/
def headCutUptoRow : OpenClaim := { program := "ytojgmgghlkpfoaa", sum := "79c1255a6743473d792e91fc04655bbde9b6b7e040a6ddb148f3895c32d74c92", func := "palfrey/palfreylaw12.HeadCut", spec := "headCut", unfollowed := true, recurses := true, apart := false, narrowed := true }
def HeadCutUptoSaid : Prop := headCutUptoRow.holds Try.pinned (OpenSpec.upto headCutSpec)

/-- 'palfreylaw12.HeadSizes', WHERE WHAT IT READS IS OF BULK AT MOST 1048576: true; the input reads as it did. -/
def headSizesUptoRow : OpenClaim := { program := "ytojgmgghlkpfoaa", sum := "79c1255a6743473d792e91fc04655bbde9b6b7e040a6ddb148f3895c32d74c92", func := "palfrey/palfreylaw12.HeadSizes", spec := "headSizes", unfollowed := true, recurses := true, apart := false, narrowed := true }
def HeadSizesUptoSaid : Prop := headSizesUptoRow.holds Try.pinned (OpenSpec.upto headSizesSpec)

/-- 'palfreylaw19.MailboxPlays', WHERE WHAT IT READS IS OF BULK AT MOST 1048576: true; the input reads as it did. -/
def mailboxPlaysUptoRow : OpenClaim := { program := "ytojgmgghlkpfoaa", sum := "79c1255a6743473d792e91fc04655bbde9b6b7e040a6ddb148f3895c32d74c92", func := "palfrey/palfreylaw19.MailboxPlays", spec := "mailboxPlays", apart := false, narrowed := true }
def MailboxPlaysUptoSaid : Prop := mailboxPlaysUptoRow.holds Try.pinned (OpenSpec.upto mailboxPlaysSpec)

/-- 'palfreylaw19.MailboxOnce', WHERE WHAT IT READS IS OF BULK AT MOST 1048576: true; the input reads as it did. -/
def mailboxOnceUptoRow : OpenClaim := { program := "ytojgmgghlkpfoaa", sum := "79c1255a6743473d792e91fc04655bbde9b6b7e040a6ddb148f3895c32d74c92", func := "palfrey/palfreylaw19.MailboxOnce", spec := "mailboxOnce", apart := false, narrowed := true }
def MailboxOnceUptoSaid : Prop := mailboxOnceUptoRow.holds Try.pinned (OpenSpec.upto mailboxOnceSpec)

/-- 'palfreylaw19.MailboxOwn', WHERE WHAT IT READS IS OF BULK AT MOST 1048576: true; the input reads as it did. -/
def mailboxOwnUptoRow : OpenClaim := { program := "ytojgmgghlkpfoaa", sum := "79c1255a6743473d792e91fc04655bbde9b6b7e040a6ddb148f3895c32d74c92", func := "palfrey/palfreylaw19.MailboxOwn", spec := "mailboxOwn", apart := false, narrowed := true }
def MailboxOwnUptoSaid : Prop := mailboxOwnUptoRow.holds Try.pinned (OpenSpec.upto mailboxOwnSpec)

/-- 'palfreylaw19.MailboxOrder', WHERE WHAT IT READS IS OF BULK AT MOST 1048576: true; the input reads as it did. -/
def mailboxOrderUptoRow : OpenClaim := { program := "ytojgmgghlkpfoaa", sum := "79c1255a6743473d792e91fc04655bbde9b6b7e040a6ddb148f3895c32d74c92", func := "palfrey/palfreylaw19.MailboxOrder", spec := "mailboxOrder", apart := false, narrowed := true }
def MailboxOrderUptoSaid : Prop := mailboxOrderUptoRow.holds Try.pinned (OpenSpec.upto mailboxOrderSpec)

end Rows
end Go.Proofs.Ytojgmgghlkpfoaa
