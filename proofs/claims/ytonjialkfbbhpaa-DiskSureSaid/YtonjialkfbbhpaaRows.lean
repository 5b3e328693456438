/-
  No cell of these rows narrows 'for every input' (looked for: loops, veiled, ifaces, maps, wideKeys, modest, calm, conditions, laid).
  DERIVED. THE GIVEN ROWS OF THIS SEAT. 9 by the template 'for every input the law returns true; each argument reads behind the call as it read before'; 0 by the template 'total and deterministic' (their statements: YtonjialkfbbhpaaTotals.lean).
  GIVEN WITH THE SEED: the statements are not yours to turn. If you find one false, say at which input.
  Laid BY PROGRAM, IN A SANDBOX (cutbox-rows.mjs): the forced cells as the released guide's own fill.sh prints them over the translation c5638b26c61b4cdc… (all of the seat's roots in one cut). By AI agents, Wed Nov 11 2026. No macro, syntax, notation, axiom, sorry.
-/
import Derived.Test.YtonjialkfbbhpaaChecked
import GoSem.Claim
import GoSem.ClaimJoined
import GoSem.ClaimMapViews
import Derived.JoinedTies
import Derived.KernelRfl
namespace Go.Proofs.Ytonjialkfbbhpaa
/- THE CELL 'sum', in the pinned program and in every row, IS THE sha256 OF THE DUMP (.gsa) THAT YtonjialkfbbhpaaProg.lean LOADS. Nothing in Lean hashes anything: it is a label: what it is worth is what the hold of that sum in a sandbox is worth. -/
noncomputable def Try.pinned : Pinned := { name := "ytonjialkfbbhpaa", sum := "c5638b26c61b4cdccb11e2ba1f96a838e17165bc0271db3e661a756afe033cc9", checked := Try.checked }
namespace Rows
def none {H : Type} : Left H := { results := [], args := [] }

/-- 'palfreylaw11.SkipsPlays': WHATEVER THE INPUT: true; the input reads as it did. -/
def skipsPlaysSpec : ChangeSpec := { name := "skipsPlays", fn := fun _ => fun
  | [d] => { results := [.lit (.bool true)], args := [d] }
  | _ => none }
def skipsPlaysRow : OpenClaim := { program := "ytonjialkfbbhpaa", sum := "c5638b26c61b4cdccb11e2ba1f96a838e17165bc0271db3e661a756afe033cc9", func := "palfrey/palfreylaw11.SkipsPlays", spec := "skipsPlays", plainKeys := false, apart := false }
def SkipsPlaysSaid : Prop := skipsPlaysRow.holds Try.pinned (OpenSpec.ofChange skipsPlaysSpec)

/-- ITS FALSE NEIGHBOUR: 'it returns false'. Refute it at one input. -/
def skipsPlaysWrong : ChangeSpec := { name := "skipsPlays", fn := fun _ => fun
  | [d] => { results := [.lit (.bool false)], args := [d] }
  | _ => none }
def SkipsPlaysWrongFalsely : Prop := skipsPlaysRow.holds Try.pinned (OpenSpec.ofChange skipsPlaysWrong)

/-- 'palfreylaw11.SkipsOnce': WHATEVER THE INPUT: true; the input reads as it did. -/
def skipsOnceSpec : ChangeSpec := { name := "skipsOnce", fn := fun _ => fun
  | [d1, d2, d3] => { results := [.lit (.bool true)], args := [d1, d2, d3] }
  | _ => none }
def skipsOnceRow : OpenClaim := { program := "ytonjialkfbbhpaa", sum := "c5638b26c61b4cdccb11e2ba1f96a838e17165bc0271db3e661a756afe033cc9", func := "palfrey/palfreylaw11.SkipsOnce", spec := "skipsOnce", plainKeys := false, apart := false }
def SkipsOnceSaid : Prop := skipsOnceRow.holds Try.pinned (OpenSpec.ofChange skipsOnceSpec)

/-- ITS FALSE NEIGHBOUR: 'it returns false'. Refute it at one input. -/
def skipsOnceWrong : ChangeSpec := { name := "skipsOnce", fn := fun _ => fun
  | [d1, d2, d3] => { results := [.lit (.bool false)], args := [d1, d2, d3] }
  | _ => none }
def SkipsOnceWrongFalsely : Prop := skipsOnceRow.holds Try.pinned (OpenSpec.ofChange skipsOnceWrong)

/-- 'palfreylaw11.SkipsLast': WHATEVER THE INPUT: true; the input reads as it did. -/
def skipsLastSpec : ChangeSpec := { name := "skipsLast", fn := fun _ => fun
  | [d1, d2] => { results := [.lit (.bool true)], args := [d1, d2] }
  | _ => none }
def skipsLastRow : OpenClaim := { program := "ytonjialkfbbhpaa", sum := "c5638b26c61b4cdccb11e2ba1f96a838e17165bc0271db3e661a756afe033cc9", func := "palfrey/palfreylaw11.SkipsLast", spec := "skipsLast", plainKeys := false, apart := false }
def SkipsLastSaid : Prop := skipsLastRow.holds Try.pinned (OpenSpec.ofChange skipsLastSpec)

/-- ITS FALSE NEIGHBOUR: 'it returns false'. Refute it at one input. -/
def skipsLastWrong : ChangeSpec := { name := "skipsLast", fn := fun _ => fun
  | [d1, d2] => { results := [.lit (.bool false)], args := [d1, d2] }
  | _ => none }
def SkipsLastWrongFalsely : Prop := skipsLastRow.holds Try.pinned (OpenSpec.ofChange skipsLastWrong)

/-- 'palfreylaw11.SkipsWhose': WHATEVER THE INPUT: true; the input reads as it did. -/
def skipsWhoseSpec : ChangeSpec := { name := "skipsWhose", fn := fun _ => fun
  | [d1, d2] => { results := [.lit (.bool true)], args := [d1, d2] }
  | _ => none }
def skipsWhoseRow : OpenClaim := { program := "ytonjialkfbbhpaa", sum := "c5638b26c61b4cdccb11e2ba1f96a838e17165bc0271db3e661a756afe033cc9", func := "palfrey/palfreylaw11.SkipsWhose", spec := "skipsWhose", plainKeys := false, apart := false }
def SkipsWhoseSaid : Prop := skipsWhoseRow.holds Try.pinned (OpenSpec.ofChange skipsWhoseSpec)

/-- ITS FALSE NEIGHBOUR: 'it returns false'. Refute it at one input. -/
def skipsWhoseWrong : ChangeSpec := { name := "skipsWhose", fn := fun _ => fun
  | [d1, d2] => { results := [.lit (.bool false)], args := [d1, d2] }
  | _ => none }
def SkipsWhoseWrongFalsely : Prop := skipsWhoseRow.holds Try.pinned (OpenSpec.ofChange skipsWhoseWrong)

/-- 'palfreylaw11.SkipsCopies': WHATEVER THE INPUT: true; the input reads as it did. -/
def skipsCopiesSpec : ChangeSpec := { name := "skipsCopies", fn := fun _ => fun
  | [d1, d2] => { results := [.lit (.bool true)], args := [d1, d2] }
  | _ => none }
def skipsCopiesRow : OpenClaim := { program := "ytonjialkfbbhpaa", sum := "c5638b26c61b4cdccb11e2ba1f96a838e17165bc0271db3e661a756afe033cc9", func := "palfrey/palfreylaw11.SkipsCopies", spec := "skipsCopies", plainKeys := false, apart := false }
def SkipsCopiesSaid : Prop := skipsCopiesRow.holds Try.pinned (OpenSpec.ofChange skipsCopiesSpec)

/-- ITS FALSE NEIGHBOUR: 'it returns false'. Refute it at one input. -/
def skipsCopiesWrong : ChangeSpec := { name := "skipsCopies", fn := fun _ => fun
  | [d1, d2] => { results := [.lit (.bool false)], args := [d1, d2] }
  | _ => none }
def SkipsCopiesWrongFalsely : Prop := skipsCopiesRow.holds Try.pinned (OpenSpec.ofChange skipsCopiesWrong)

/-- 'palfreylaw21.DiskPlays': WHATEVER THE INPUT: true; the input reads as it did. -/
def diskPlaysSpec : ChangeSpec := { name := "diskPlays", fn := fun _ => fun
  | [d1, d2] => { results := [.lit (.bool true)], args := [d1, d2] }
  | _ => none }
def diskPlaysRow : OpenClaim := { program := "ytonjialkfbbhpaa", sum := "c5638b26c61b4cdccb11e2ba1f96a838e17165bc0271db3e661a756afe033cc9", func := "palfrey/palfreylaw21.DiskPlays", spec := "diskPlays", plainKeys := false, apart := false }
def DiskPlaysSaid : Prop := diskPlaysRow.holds Try.pinned (OpenSpec.ofChange diskPlaysSpec)

/-- ITS FALSE NEIGHBOUR: 'it returns false'. Refute it at one input. -/
def diskPlaysWrong : ChangeSpec := { name := "diskPlays", fn := fun _ => fun
  | [d1, d2] => { results := [.lit (.bool false)], args := [d1, d2] }
  | _ => none }
def DiskPlaysWrongFalsely : Prop := diskPlaysRow.holds Try.pinned (OpenSpec.ofChange diskPlaysWrong)

/-- 'palfreylaw21.DiskSure': WHATEVER THE INPUT: true; the input reads as it did. -/
def diskSureSpec : ChangeSpec := { name := "diskSure", fn := fun _ => fun
  | [d1, d2, d3] => { results := [.lit (.bool true)], args := [d1, d2, d3] }
  | _ => none }
def diskSureRow : OpenClaim := { program := "ytonjialkfbbhpaa", sum := "c5638b26c61b4cdccb11e2ba1f96a838e17165bc0271db3e661a756afe033cc9", func := "palfrey/palfreylaw21.DiskSure", spec := "diskSure", plainKeys := false, apart := false }
def DiskSureSaid : Prop := diskSureRow.holds Try.pinned (OpenSpec.ofChange diskSureSpec)

/-- ITS FALSE NEIGHBOUR: 'it returns false'. Refute it at one input. -/
def diskSureWrong : ChangeSpec := { name := "diskSure", fn := fun _ => fun
  | [d1, d2, d3] => { results := [.lit (.bool false)], args := [d1, d2, d3] }
  | _ => none }
def DiskSureWrongFalsely : Prop := diskSureRow.holds Try.pinned (OpenSpec.ofChange diskSureWrong)

/-- 'palfreylaw21.DiskBurns': WHATEVER THE INPUT: true; the input reads as it did. -/
def diskBurnsSpec : ChangeSpec := { name := "diskBurns", fn := fun _ => fun
  | [d1, d2] => { results := [.lit (.bool true)], args := [d1, d2] }
  | _ => none }
def diskBurnsRow : OpenClaim := { program := "ytonjialkfbbhpaa", sum := "c5638b26c61b4cdccb11e2ba1f96a838e17165bc0271db3e661a756afe033cc9", func := "palfrey/palfreylaw21.DiskBurns", spec := "diskBurns", plainKeys := false, apart := false }
def DiskBurnsSaid : Prop := diskBurnsRow.holds Try.pinned (OpenSpec.ofChange diskBurnsSpec)

/-- ITS FALSE NEIGHBOUR: 'it returns false'. Refute it at one input. -/
def diskBurnsWrong : ChangeSpec := { name := "diskBurns", fn := fun _ => fun
  | [d1, d2] => { results := [.lit (.bool false)], args := [d1, d2] }
  | _ => none }
def DiskBurnsWrongFalsely : Prop := diskBurnsRow.holds Try.pinned (OpenSpec.ofChange diskBurnsWrong)

/-- 'palfreylaw21.DiskLast': WHATEVER THE INPUT: true; the input reads as it did. -/
def diskLastSpec : ChangeSpec := { name := "diskLast", fn := fun _ => fun
  | [d] => { results := [.lit (.bool true)], args := [d] }
  | _ => none }
def diskLastRow : OpenClaim := { program := "ytonjialkfbbhpaa", sum := "c5638b26c61b4cdccb11e2ba1f96a838e17165bc0271db3e661a756afe033cc9", func := "palfrey/palfreylaw21.DiskLast", spec := "diskLast", plainKeys := false, apart := false }
def DiskLastSaid : Prop := diskLastRow.holds Try.pinned (OpenSpec.ofChange diskLastSpec)

/-- ITS FALSE NEIGHBOUR: 'it returns false'. Refute it at one input. -/
def diskLastWrong : ChangeSpec := { name := "diskLast", fn := fun _ => fun
  | [d] => { results := [.lit (.bool false)], args := [d] }
  | _ => none }
def DiskLastWrongFalsely : Prop := diskLastRow.holds Try.pinned (OpenSpec.ofChange diskLastWrong)

/- THE SECOND FORM. 'bulk': how many values and letters a reading holds, each counted each time it is reached (what is shared counts as often as it is met; a slice's spare places count too). A statement '..UptoSaid' is the law's where the arguments, and the package variables that the reading takes, are together of bulk at most 1048576: NARROWER than '..Said'. Prove '..Said' where nothing that the law and all that it calls make is longer than what came in: it says more and counts as full. Else prove '..UptoSaid'. A law counts once. -/
mutual
def uptoBulk {H : Type} : DataW H → Nat
  | .lit (.string bytes) => bytes.length + 1
  | .lit _ => 1
  | .nil => 1
  | .ptr d => uptoBulk d + 1
  | .slice elems spare => uptoBulkAll elems + uptoBulkAll spare + 1
  | .agg parts => uptoBulkAll parts + 1
  | .iface _ d => uptoBulk d + 1
  | .map entries => uptoBulkEntries entries + 1
  | .held _ => 1
def uptoBulkAll {H : Type} : List (DataW H) → Nat
  | [] => 0
  | d :: r => uptoBulk d + uptoBulkAll r
def uptoBulkEntries {H : Type} : List (Lit × DataW H) → Nat
  | [] => 0
  | x :: r => uptoBulkEntry x + uptoBulkEntries r
def uptoBulkEntry {H : Type} : Lit × DataW H → Nat
  | (.string bytes, d) => bytes.length + uptoBulk d + 1
  | (_, d) => uptoBulk d + 1
 end
def uptoSmall : (H : Type) → List (DataW H) → Bool := fun _ ds => decide (uptoBulkAll ds ≤ 1048576)
def OpenSpec.upto (s : _root_.Go.ChangeSpec) : _root_.Go.OpenSpec := { _root_.Go.OpenSpec.ofChange s with cond := some uptoSmall }

/-- 'palfreylaw11.SkipsPlays', WHERE WHAT IT READS IS OF BULK AT MOST 1048576: true; the input reads as it did. -/
def skipsPlaysUptoRow : OpenClaim := { program := "ytonjialkfbbhpaa", sum := "c5638b26c61b4cdccb11e2ba1f96a838e17165bc0271db3e661a756afe033cc9", func := "palfrey/palfreylaw11.SkipsPlays", spec := "skipsPlays", plainKeys := false, apart := false, narrowed := true }
def SkipsPlaysUptoSaid : Prop := skipsPlaysUptoRow.holds Try.pinned (OpenSpec.upto skipsPlaysSpec)

/-- 'palfreylaw11.SkipsOnce', WHERE WHAT IT READS IS OF BULK AT MOST 1048576: true; the input reads as it did. -/
def skipsOnceUptoRow : OpenClaim := { program := "ytonjialkfbbhpaa", sum := "c5638b26c61b4cdccb11e2ba1f96a838e17165bc0271db3e661a756afe033cc9", func := "palfrey/palfreylaw11.SkipsOnce", spec := "skipsOnce", plainKeys := false, apart := false, narrowed := true }
def SkipsOnceUptoSaid : Prop := skipsOnceUptoRow.holds Try.pinned (OpenSpec.upto skipsOnceSpec)

/-- 'palfreylaw11.SkipsLast', WHERE WHAT IT READS IS OF BULK AT MOST 1048576: true; the input reads as it did. -/
def skipsLastUptoRow : OpenClaim := { program := "ytonjialkfbbhpaa", sum := "c5638b26c61b4cdccb11e2ba1f96a838e17165bc0271db3e661a756afe033cc9", func := "palfrey/palfreylaw11.SkipsLast", spec := "skipsLast", plainKeys := false, apart := false, narrowed := true }
def SkipsLastUptoSaid : Prop := skipsLastUptoRow.holds Try.pinned (OpenSpec.upto skipsLastSpec)

/-- 'palfreylaw11.SkipsWhose', WHERE WHAT IT READS IS OF BULK AT MOST 1048576: true; the input reads as it did. -/
def skipsWhoseUptoRow : OpenClaim := { program := "ytonjialkfbbhpaa", sum := "c5638b26c61b4cdccb11e2ba1f96a838e17165bc0271db3e661a756afe033cc9", func := "palfrey/palfreylaw11.SkipsWhose", spec := "skipsWhose", plainKeys := false, apart := false, narrowed := true }
def SkipsWhoseUptoSaid : Prop := skipsWhoseUptoRow.holds Try.pinned (OpenSpec.upto skipsWhoseSpec)

/-- 'palfreylaw11.SkipsCopies', WHERE WHAT IT READS IS OF BULK AT MOST 1048576: true; the input reads as it did. -/
def skipsCopiesUptoRow : OpenClaim := { program := "ytonjialkfbbhpaa", sum := "c5638b26c61b4cdccb11e2ba1f96a838e17165bc0271db3e661a756afe033cc9", func := "palfrey/palfreylaw11.SkipsCopies", spec := "skipsCopies", plainKeys := false, apart := false, narrowed := true }
def SkipsCopiesUptoSaid : Prop := skipsCopiesUptoRow.holds Try.pinned (OpenSpec.upto skipsCopiesSpec)

/-- 'palfreylaw21.DiskPlays', WHERE WHAT IT READS IS OF BULK AT MOST 1048576: true; the input reads as it did. -/
def diskPlaysUptoRow : OpenClaim := { program := "ytonjialkfbbhpaa", sum := "c5638b26c61b4cdccb11e2ba1f96a838e17165bc0271db3e661a756afe033cc9", func := "palfrey/palfreylaw21.DiskPlays", spec := "diskPlays", plainKeys := false, apart := false, narrowed := true }
def DiskPlaysUptoSaid : Prop := diskPlaysUptoRow.holds Try.pinned (OpenSpec.upto diskPlaysSpec)

/-- 'palfreylaw21.DiskSure', WHERE WHAT IT READS IS OF BULK AT MOST 1048576: true; the input reads as it did. -/
def diskSureUptoRow : OpenClaim := { program := "ytonjialkfbbhpaa", sum := "c5638b26c61b4cdccb11e2ba1f96a838e17165bc0271db3e661a756afe033cc9", func := "palfrey/palfreylaw21.DiskSure", spec := "diskSure", plainKeys := false, apart := false, narrowed := true }
def DiskSureUptoSaid : Prop := diskSureUptoRow.holds Try.pinned (OpenSpec.upto diskSureSpec)

/-- 'palfreylaw21.DiskBurns', WHERE WHAT IT READS IS OF BULK AT MOST 1048576: true; the input reads as it did. -/
def diskBurnsUptoRow : OpenClaim := { program := "ytonjialkfbbhpaa", sum := "c5638b26c61b4cdccb11e2ba1f96a838e17165bc0271db3e661a756afe033cc9", func := "palfrey/palfreylaw21.DiskBurns", spec := "diskBurns", plainKeys := false, apart := false, narrowed := true }
def DiskBurnsUptoSaid : Prop := diskBurnsUptoRow.holds Try.pinned (OpenSpec.upto diskBurnsSpec)

/-- 'palfreylaw21.DiskLast', WHERE WHAT IT READS IS OF BULK AT MOST 1048576: true; the input reads as it did. -/
def diskLastUptoRow : OpenClaim := { program := "ytonjialkfbbhpaa", sum := "c5638b26c61b4cdccb11e2ba1f96a838e17165bc0271db3e661a756afe033cc9", func := "palfrey/palfreylaw21.DiskLast", spec := "diskLast", plainKeys := false, apart := false, narrowed := true }
def DiskLastUptoSaid : Prop := diskLastUptoRow.holds Try.pinned (OpenSpec.upto diskLastSpec)

end Rows
end Go.Proofs.Ytonjialkfbbhpaa
