/-
  No cell of these rows narrows 'for every input' (looked for: loops, veiled, ifaces, maps, wideKeys, modest, calm, conditions, laid).
  DERIVED. THE GIVEN ROWS OF THIS SEAT. 8 by the template 'for every input the law returns true; each argument reads behind the call as it read before'; 0 by the template 'total and deterministic' (their statements: YteaoacinhdjkeaaTotals.lean).
  GIVEN WITH THE SEED: the statements are not yours to turn. If you find one false, say at which input.
  Laid BY PROGRAM, IN A SANDBOX (cutbox-rows.mjs): the forced cells as the released guide's own fill.sh prints them over the translation cbc010d9b0f4ddf5… (all of the seat's roots in one cut). By AI agents, Wed Nov 11 2026. No macro, syntax, notation, axiom, sorry.
-/
import Derived.Test.YteaoacinhdjkeaaChecked
import GoSem.Claim
import GoSem.ClaimJoined
import GoSem.ClaimMapViews
import Derived.JoinedTies
import Derived.KernelRfl
namespace Go.Proofs.Yteaoacinhdjkeaa
/- THE CELL 'sum', in the pinned program and in every row, IS THE sha256 OF THE DUMP (.gsa) THAT YteaoacinhdjkeaaProg.lean LOADS. Nothing in Lean hashes anything: it is a label: what it is worth is what the hold of that sum in a sandbox is worth. -/
noncomputable def Try.pinned : Pinned := { name := "yteaoacinhdjkeaa", sum := "cbc010d9b0f4ddf5faca9fb17a8f401e2a8db1b1748e1cf5d4b95775490eb0b4", checked := Try.checked }
namespace Rows
def none {H : Type} : Left H := { results := [], args := [] }

/-- 'palfreylaw22.JournalPlays': WHATEVER THE INPUT: true; the input reads as it did. -/
def journalPlaysSpec : ChangeSpec := { name := "journalPlays", fn := fun _ => fun
  | [d1, d2] => { results := [.lit (.bool true)], args := [d1, d2] }
  | _ => none }
def journalPlaysRow : OpenClaim := { program := "yteaoacinhdjkeaa", sum := "cbc010d9b0f4ddf5faca9fb17a8f401e2a8db1b1748e1cf5d4b95775490eb0b4", func := "palfrey/palfreylaw22.JournalPlays", spec := "journalPlays", unfollowed := true, recurses := true, apart := false }
def JournalPlaysSaid : Prop := journalPlaysRow.holds Try.pinned (OpenSpec.ofChange journalPlaysSpec)

/-- ITS FALSE NEIGHBOUR: 'it returns false'. Refute it at one input. -/
def journalPlaysWrong : ChangeSpec := { name := "journalPlays", fn := fun _ => fun
  | [d1, d2] => { results := [.lit (.bool false)], args := [d1, d2] }
  | _ => none }
def JournalPlaysWrongFalsely : Prop := journalPlaysRow.holds Try.pinned (OpenSpec.ofChange journalPlaysWrong)

/-- 'palfreylaw22.JournalSure': WHATEVER THE INPUT: true; the input reads as it did. -/
def journalSureSpec : ChangeSpec := { name := "journalSure", fn := fun _ => fun
  | [d1, d2, d3] => { results := [.lit (.bool true)], args := [d1, d2, d3] }
  | _ => none }
def journalSureRow : OpenClaim := { program := "yteaoacinhdjkeaa", sum := "cbc010d9b0f4ddf5faca9fb17a8f401e2a8db1b1748e1cf5d4b95775490eb0b4", func := "palfrey/palfreylaw22.JournalSure", spec := "journalSure", unfollowed := true, recurses := true, apart := false }
def JournalSureSaid : Prop := journalSureRow.holds Try.pinned (OpenSpec.ofChange journalSureSpec)

/-- ITS FALSE NEIGHBOUR: 'it returns false'. Refute it at one input. -/
def journalSureWrong : ChangeSpec := { name := "journalSure", fn := fun _ => fun
  | [d1, d2, d3] => { results := [.lit (.bool false)], args := [d1, d2, d3] }
  | _ => none }
def JournalSureWrongFalsely : Prop := journalSureRow.holds Try.pinned (OpenSpec.ofChange journalSureWrong)

/-- 'palfreylaw22.JournalFull': WHATEVER THE INPUT: true; the input reads as it did. -/
def journalFullSpec : ChangeSpec := { name := "journalFull", fn := fun _ => fun
  | [d1, d2] => { results := [.lit (.bool true)], args := [d1, d2] }
  | _ => none }
def journalFullRow : OpenClaim := { program := "yteaoacinhdjkeaa", sum := "cbc010d9b0f4ddf5faca9fb17a8f401e2a8db1b1748e1cf5d4b95775490eb0b4", func := "palfrey/palfreylaw22.JournalFull", spec := "journalFull", unfollowed := true, recurses := true, apart := false }
def JournalFullSaid : Prop := journalFullRow.holds Try.pinned (OpenSpec.ofChange journalFullSpec)

/-- ITS FALSE NEIGHBOUR: 'it returns false'. Refute it at one input. -/
def journalFullWrong : ChangeSpec := { name := "journalFull", fn := fun _ => fun
  | [d1, d2] => { results := [.lit (.bool false)], args := [d1, d2] }
  | _ => none }
def JournalFullWrongFalsely : Prop := journalFullRow.holds Try.pinned (OpenSpec.ofChange journalFullWrong)

/-- 'palfreylaw23.StrikesPlays': WHATEVER THE INPUT: true; the input reads as it did. -/
def strikesPlaysSpec : ChangeSpec := { name := "strikesPlays", fn := fun _ => fun
  | [d1, d2] => { results := [.lit (.bool true)], args := [d1, d2] }
  | _ => none }
def strikesPlaysRow : OpenClaim := { program := "yteaoacinhdjkeaa", sum := "cbc010d9b0f4ddf5faca9fb17a8f401e2a8db1b1748e1cf5d4b95775490eb0b4", func := "palfrey/palfreylaw23.StrikesPlays", spec := "strikesPlays", unfollowed := true, recurses := true, apart := false }
def StrikesPlaysSaid : Prop := strikesPlaysRow.holds Try.pinned (OpenSpec.ofChange strikesPlaysSpec)

/-- ITS FALSE NEIGHBOUR: 'it returns false'. Refute it at one input. -/
def strikesPlaysWrong : ChangeSpec := { name := "strikesPlays", fn := fun _ => fun
  | [d1, d2] => { results := [.lit (.bool false)], args := [d1, d2] }
  | _ => none }
def StrikesPlaysWrongFalsely : Prop := strikesPlaysRow.holds Try.pinned (OpenSpec.ofChange strikesPlaysWrong)

/-- 'palfreylaw23.StrikesSure': WHATEVER THE INPUT: true; the input reads as it did. -/
def strikesSureSpec : ChangeSpec := { name := "strikesSure", fn := fun _ => fun
  | [d1, d2, d3] => { results := [.lit (.bool true)], args := [d1, d2, d3] }
  | _ => none }
def strikesSureRow : OpenClaim := { program := "yteaoacinhdjkeaa", sum := "cbc010d9b0f4ddf5faca9fb17a8f401e2a8db1b1748e1cf5d4b95775490eb0b4", func := "palfrey/palfreylaw23.StrikesSure", spec := "strikesSure", unfollowed := true, recurses := true, apart := false }
def StrikesSureSaid : Prop := strikesSureRow.holds Try.pinned (OpenSpec.ofChange strikesSureSpec)

/-- ITS FALSE NEIGHBOUR: 'it returns false'. Refute it at one input. -/
def strikesSureWrong : ChangeSpec := { name := "strikesSure", fn := fun _ => fun
  | [d1, d2, d3] => { results := [.lit (.bool false)], args := [d1, d2, d3] }
  | _ => none }
def StrikesSureWrongFalsely : Prop := strikesSureRow.holds Try.pinned (OpenSpec.ofChange strikesSureWrong)

/-- 'palfreylaw23.StrikesPast': WHATEVER THE INPUT: true; the input reads as it did. -/
def strikesPastSpec : ChangeSpec := { name := "strikesPast", fn := fun _ => fun
  | [d1, d2, d3] => { results := [.lit (.bool true)], args := [d1, d2, d3] }
  | _ => none }
def strikesPastRow : OpenClaim := { program := "yteaoacinhdjkeaa", sum := "cbc010d9b0f4ddf5faca9fb17a8f401e2a8db1b1748e1cf5d4b95775490eb0b4", func := "palfrey/palfreylaw23.StrikesPast", spec := "strikesPast", unfollowed := true, recurses := true, apart := false }
def StrikesPastSaid : Prop := strikesPastRow.holds Try.pinned (OpenSpec.ofChange strikesPastSpec)

/-- ITS FALSE NEIGHBOUR: 'it returns false'. Refute it at one input. -/
def strikesPastWrong : ChangeSpec := { name := "strikesPast", fn := fun _ => fun
  | [d1, d2, d3] => { results := [.lit (.bool false)], args := [d1, d2, d3] }
  | _ => none }
def StrikesPastWrongFalsely : Prop := strikesPastRow.holds Try.pinned (OpenSpec.ofChange strikesPastWrong)

/-- 'palfreylaw23.StrikesApart': WHATEVER THE INPUT: true; the input reads as it did. -/
def strikesApartSpec : ChangeSpec := { name := "strikesApart", fn := fun _ => fun
  | [d1, d2] => { results := [.lit (.bool true)], args := [d1, d2] }
  | _ => none }
def strikesApartRow : OpenClaim := { program := "yteaoacinhdjkeaa", sum := "cbc010d9b0f4ddf5faca9fb17a8f401e2a8db1b1748e1cf5d4b95775490eb0b4", func := "palfrey/palfreylaw23.StrikesApart", spec := "strikesApart", unfollowed := true, recurses := true, apart := false }
def StrikesApartSaid : Prop := strikesApartRow.holds Try.pinned (OpenSpec.ofChange strikesApartSpec)

/-- ITS FALSE NEIGHBOUR: 'it returns false'. Refute it at one input. -/
def strikesApartWrong : ChangeSpec := { name := "strikesApart", fn := fun _ => fun
  | [d1, d2] => { results := [.lit (.bool false)], args := [d1, d2] }
  | _ => none }
def StrikesApartWrongFalsely : Prop := strikesApartRow.holds Try.pinned (OpenSpec.ofChange strikesApartWrong)

/-- 'palfreylaw23.StrikesThree': WHATEVER THE INPUT: true; the input reads as it did. -/
def strikesThreeSpec : ChangeSpec := { name := "strikesThree", fn := fun _ => fun
  | [d1, d2, d3] => { results := [.lit (.bool true)], args := [d1, d2, d3] }
  | _ => none }
def strikesThreeRow : OpenClaim := { program := "yteaoacinhdjkeaa", sum := "cbc010d9b0f4ddf5faca9fb17a8f401e2a8db1b1748e1cf5d4b95775490eb0b4", func := "palfrey/palfreylaw23.StrikesThree", spec := "strikesThree", unfollowed := true, recurses := true, apart := false }
def StrikesThreeSaid : Prop := strikesThreeRow.holds Try.pinned (OpenSpec.ofChange strikesThreeSpec)

/-- ITS FALSE NEIGHBOUR: 'it returns false'. Refute it at one input. -/
def strikesThreeWrong : ChangeSpec := { name := "strikesThree", fn := fun _ => fun
  | [d1, d2, d3] => { results := [.lit (.bool false)], args := [d1, d2, d3] }
  | _ => none }
def StrikesThreeWrongFalsely : Prop := strikesThreeRow.holds Try.pinned (OpenSpec.ofChange strikesThreeWrong)

/- THE SECOND FORM. 'bulk': how many values and letters a reading holds, each counted each time it is reached (what is shared counts as often as it is met; a slice's spare places count too). A statement '..UptoSaid' is the law's where the arguments, and the package variables that the reading takes, are together of bulk at most 1048576: NARROWER than '..Said'. Prove '..Said' where nothing that the law and all that it calls make is longer than what came in: it says more and counts as full. Else prove '..UptoSaid'. A law counts once. -/
mutual
def uptoBulk {H : Type} : DataW H → Nat
  | .lit (.string bytes) => bytes.length + 1
  | .lit _ => 1
  | .nil => 1
  | .ptr d => uptoBulk d + 1
  | .slice elems spare => uptoBulkAll elems + uptoBulkAll spare + 1
  | .agg parts => uptoBulkAll parts + 1
  | .iface _ d => uptoBulk d + 1
  | .map entries => uptoBulkEntries entries + 1
  | .held _ => 1
def uptoBulkAll {H : Type} : List (DataW H) → Nat
  | [] => 0
  | d :: r => uptoBulk d + uptoBulkAll r
def uptoBulkEntries {H : Type} : List (Lit × DataW H) → Nat
  | [] => 0
  | x :: r => uptoBulkEntry x + uptoBulkEntries r
def uptoBulkEntry {H : Type} : Lit × DataW H → Nat
  | (.string bytes, d) => bytes.length + uptoBulk d + 1
  | (_, d) => uptoBulk d + 1
 end
def uptoSmall : (H : Type) → List (DataW H) → Bool := fun _ ds => decide (uptoBulkAll ds ≤ 1048576)
def OpenSpec.upto (s : _root_.Go.ChangeSpec) : _root_.Go.OpenSpec := { _root_.Go.OpenSpec.ofChange s with cond := some uptoSmall }

/-- 'palfreylaw22.JournalPlays', WHERE WHAT IT READS IS OF BULK AT MOST 1048576: true; the input reads as it did. -/
def journalPlaysUptoRow : OpenClaim := { program := "yteaoacinhdjkeaa", sum := "cbc010d9b0f4ddf5faca9fb17a8f401e2a8db1b1748e1cf5d4b95775490eb0b4", func := "palfrey/palfreylaw22.JournalPlays", spec := "journalPlays", unfollowed := true, recurses := true, apart := false, narrowed := true }
def JournalPlaysUptoSaid : Prop := journalPlaysUptoRow.holds Try.pinned (OpenSpec.upto journalPlaysSpec)

/-- 'palfreylaw22.JournalSure', WHERE WHAT IT READS IS OF BULK AT MOST 1048576: true; the input reads as it did. -/
def journalSureUptoRow : OpenClaim := { program := "yteaoacinhdjkeaa", sum := "cbc010d9b0f4ddf5faca9fb17a8f401e2a8db1b1748e1cf5d4b95775490eb0b4", func := "palfrey/palfreylaw22.JournalSure", spec := "journalSure", unfollowed := true, recurses := true, apart := false, narrowed := true }
def JournalSureUptoSaid : Prop := journalSureUptoRow.holds Try.pinned (OpenSpec.upto journalSureSpec)

/-- 'palfreylaw22.JournalFull', WHERE WHAT IT READS IS OF BULK AT MOST 1048576: true; the input reads as it did. -/
def journalFullUptoRow : OpenClaim := { program := "yteaoacinhdjkeaa", sum := "cbc010d9b0f4ddf5faca9fb17a8f401e2a8db1b1748e1cf5d4b95775490eb0b4", func := "palfrey/palfreylaw22.JournalFull", spec := "journalFull", unfollowed := true, recurses := true, apart := false, narrowed := true }
def JournalFullUptoSaid : Prop := journalFullUptoRow.holds Try.pinned (OpenSpec.upto journalFullSpec)

/-- 'palfreylaw23.StrikesPlays', WHERE WHAT IT READS IS OF BULK AT MOST 1048576: true; the input reads as it did. -/
def strikesPlaysUptoRow : OpenClaim := { program := "yteaoacinhdjkeaa", sum := "cbc010d9b0f4ddf5faca9fb17a8f401e2a8db1b1748e1cf5d4b95775490eb0b4", func := "palfrey/palfreylaw23.StrikesPlays", spec := "strikesPlays", unfollowed := true, recurses := true, apart := false, narrowed := true }
def StrikesPlaysUptoSaid : Prop := strikesPlaysUptoRow.holds Try.pinned (OpenSpec.upto strikesPlaysSpec)

/-- 'palfreylaw23.StrikesSure', WHERE WHAT IT READS IS OF BULK AT MOST 1048576: true; the input reads as it did. -/
def strikesSureUptoRow : OpenClaim := { program := "yteaoacinhdjkeaa", sum := "cbc010d9b0f4ddf5faca9fb17a8f401e2a8db1b1748e1cf5d4b95775490eb0b4", func := "palfrey/palfreylaw23.StrikesSure", spec := "strikesSure", unfollowed := true, recurses := true, apart := false, narrowed := true }
def StrikesSureUptoSaid : Prop := strikesSureUptoRow.holds Try.pinned (OpenSpec.upto strikesSureSpec)

/-- 'palfreylaw23.StrikesPast', WHERE WHAT IT READS IS OF BULK AT MOST 1048576: true; the input reads as it did. -/
def strikesPastUptoRow : OpenClaim := { program := "yteaoacinhdjkeaa", sum := "cbc010d9b0f4ddf5faca9fb17a8f401e2a8db1b1748e1cf5d4b95775490eb0b4", func := "palfrey/palfreylaw23.StrikesPast", spec := "strikesPast", unfollowed := true, recurses := true, apart := false, narrowed := true }
def StrikesPastUptoSaid : Prop := strikesPastUptoRow.holds Try.pinned (OpenSpec.upto strikesPastSpec)

/-- 'palfreylaw23.StrikesApart', WHERE WHAT IT READS IS OF BULK AT MOST 1048576: true; the input reads as it did. -/
def strikesApartUptoRow : OpenClaim := { program := "yteaoacinhdjkeaa", sum := "cbc010d9b0f4ddf5faca9fb17a8f401e2a8db1b1748e1cf5d4b95775490eb0b4", func := "palfrey/palfreylaw23.StrikesApart", spec := "strikesApart", unfollowed := true, recurses := true, apart := false, narrowed := true }
def StrikesApartUptoSaid : Prop := strikesApartUptoRow.holds Try.pinned (OpenSpec.upto strikesApartSpec)

/-- 'palfreylaw23.StrikesThree', WHERE WHAT IT READS IS OF BULK AT MOST 1048576: true; the input reads as it did. -/
def strikesThreeUptoRow : OpenClaim := { program := "yteaoacinhdjkeaa", sum := "cbc010d9b0f4ddf5faca9fb17a8f401e2a8db1b1748e1cf5d4b95775490eb0b4", func := "palfrey/palfreylaw23.StrikesThree", spec := "strikesThree", unfollowed := true, recurses := true, apart := false, narrowed := true }
def StrikesThreeUptoSaid : Prop := strikesThreeUptoRow.holds Try.pinned (OpenSpec.upto strikesThreeSpec)

end Rows
end Go.Proofs.Yteaoacinhdjkeaa
