/-
  DERIVED. GIVEN WITH THE SEED: THE CARDS: each row of YteognebhlehjlaaDoorRows.lean that lists a variable, with what it lists TIED to the program's text (the seventh form; the later family's looks); each row that meets fmt, with fmt's text TOLD by the authors' own Lean function (tested against real Go, not proved from fmt's source: count such statements apart). THE CARD IS WHAT COUNTS. Prove the row's statement (the work); the ties are given (YteognebhlehjlaaDoorTie.lean); close each card by the builder's one call (the guide's Derived/Test/ToyasCard.lean, 'card_holds'). Laid BY PROGRAM, IN A SANDBOX (cutbox-door.mjs). By AI agents, Wed Nov 11 2026. No macro, syntax, notation, axiom, sorry.
-/
import Derived.Test.YteognebhlehjlaaDoorRows
import GoSem.ClaimSeven
namespace Go.Proofs.YteognebhlehjlaaDoor
namespace Rows

/-- THE TIED CARD OF 'palfreylaw06.FieldReckons'. -/
def fieldReckonsCard : Claim7 := { stood := { row := fieldReckonsRow, standIns := [], harness := (true, "946cec2dabdf0e5d4bd5446904361ad3bb218e4c14df145e94122f6dee0b858f"), looks := false }, kinds := [], alts := [], laidByText := true, laidKinds := [.data], laidTests := true, laidLooks := .later }
def FieldReckonsCardSaid : Prop := Claim7.holds Tryd.pinned (.plain (OpenSpec.ofChange fieldReckonsSpec)) fieldReckonsCard

/-- THE TIED CARD OF 'palfreylaw06.FieldInverts'. -/
def fieldInvertsCard : Claim7 := { stood := { row := fieldInvertsRow, standIns := [], harness := (true, "946cec2dabdf0e5d4bd5446904361ad3bb218e4c14df145e94122f6dee0b858f"), looks := false }, kinds := [], alts := [], laidByText := true, laidKinds := [.data], laidTests := true, laidLooks := .later }
def FieldInvertsCardSaid : Prop := Claim7.holds Tryd.pinned (.plain (OpenSpec.ofChange fieldInvertsSpec)) fieldInvertsCard

/-- THE TIED CARD OF 'palfreylaw06.FieldTurns'. -/
def fieldTurnsCard : Claim7 := { stood := { row := fieldTurnsRow, standIns := [], harness := (true, "946cec2dabdf0e5d4bd5446904361ad3bb218e4c14df145e94122f6dee0b858f"), looks := false }, kinds := [], alts := [], laidByText := true, laidKinds := [.data], laidTests := true, laidLooks := .later }
def FieldTurnsCardSaid : Prop := Claim7.holds Tryd.pinned (.plain (OpenSpec.ofChange fieldTurnsSpec)) fieldTurnsCard

/-- THE TIED CARD OF 'palfreylaw06.FieldBack'. -/
def fieldBackCard : Claim7 := { stood := { row := fieldBackRow, standIns := [], harness := (true, "946cec2dabdf0e5d4bd5446904361ad3bb218e4c14df145e94122f6dee0b858f"), looks := false }, kinds := [], alts := [], laidByText := true, laidKinds := [.data], laidTests := true, laidLooks := .later }
def FieldBackCardSaid : Prop := Claim7.holds Tryd.pinned (.plain (OpenSpec.ofChange fieldBackSpec)) fieldBackCard

/-- THE TIED CARD OF 'palfreylaw06.FieldMany'. -/
def fieldManyCard : Claim7 := { stood := { row := fieldManyRow, standIns := [], harness := (true, "946cec2dabdf0e5d4bd5446904361ad3bb218e4c14df145e94122f6dee0b858f"), looks := false }, kinds := [], alts := [], laidByText := true, laidKinds := [.data], laidTests := true, laidLooks := .later }
def FieldManyCardSaid : Prop := Claim7.holds Tryd.pinned (.plain (OpenSpec.ofChange fieldManySpec)) fieldManyCard

/-- THE TIED CARD OF 'palfreylaw06.FieldNought'. -/
def fieldNoughtCard : Claim7 := { stood := { row := fieldNoughtRow, standIns := [], harness := (true, "946cec2dabdf0e5d4bd5446904361ad3bb218e4c14df145e94122f6dee0b858f"), looks := false }, kinds := [], alts := [], laidByText := true, laidKinds := [.data], laidTests := true, laidLooks := .later }
def FieldNoughtCardSaid : Prop := Claim7.holds Tryd.pinned (.plain (OpenSpec.ofChange fieldNoughtSpec)) fieldNoughtCard

/-- THE SECOND FORM's CARD OF 'palfreylaw06.FieldReckons'. -/
def fieldReckonsUptoCard : Claim7 := { stood := { row := fieldReckonsUptoRow, standIns := [], harness := (true, "946cec2dabdf0e5d4bd5446904361ad3bb218e4c14df145e94122f6dee0b858f"), looks := false }, kinds := [], alts := [], laidByText := true, laidKinds := [.data], laidTests := true, laidLooks := .later }
def FieldReckonsUptoCardSaid : Prop := Claim7.holds Tryd.pinned (.plain (OpenSpec.upto fieldReckonsSpec)) fieldReckonsUptoCard

/-- THE SECOND FORM's CARD OF 'palfreylaw06.FieldInverts'. -/
def fieldInvertsUptoCard : Claim7 := { stood := { row := fieldInvertsUptoRow, standIns := [], harness := (true, "946cec2dabdf0e5d4bd5446904361ad3bb218e4c14df145e94122f6dee0b858f"), looks := false }, kinds := [], alts := [], laidByText := true, laidKinds := [.data], laidTests := true, laidLooks := .later }
def FieldInvertsUptoCardSaid : Prop := Claim7.holds Tryd.pinned (.plain (OpenSpec.upto fieldInvertsSpec)) fieldInvertsUptoCard

/-- THE SECOND FORM's CARD OF 'palfreylaw06.FieldTurns'. -/
def fieldTurnsUptoCard : Claim7 := { stood := { row := fieldTurnsUptoRow, standIns := [], harness := (true, "946cec2dabdf0e5d4bd5446904361ad3bb218e4c14df145e94122f6dee0b858f"), looks := false }, kinds := [], alts := [], laidByText := true, laidKinds := [.data], laidTests := true, laidLooks := .later }
def FieldTurnsUptoCardSaid : Prop := Claim7.holds Tryd.pinned (.plain (OpenSpec.upto fieldTurnsSpec)) fieldTurnsUptoCard

/-- THE SECOND FORM's CARD OF 'palfreylaw06.FieldBack'. -/
def fieldBackUptoCard : Claim7 := { stood := { row := fieldBackUptoRow, standIns := [], harness := (true, "946cec2dabdf0e5d4bd5446904361ad3bb218e4c14df145e94122f6dee0b858f"), looks := false }, kinds := [], alts := [], laidByText := true, laidKinds := [.data], laidTests := true, laidLooks := .later }
def FieldBackUptoCardSaid : Prop := Claim7.holds Tryd.pinned (.plain (OpenSpec.upto fieldBackSpec)) fieldBackUptoCard

/-- THE SECOND FORM's CARD OF 'palfreylaw06.FieldMany'. -/
def fieldManyUptoCard : Claim7 := { stood := { row := fieldManyUptoRow, standIns := [], harness := (true, "946cec2dabdf0e5d4bd5446904361ad3bb218e4c14df145e94122f6dee0b858f"), looks := false }, kinds := [], alts := [], laidByText := true, laidKinds := [.data], laidTests := true, laidLooks := .later }
def FieldManyUptoCardSaid : Prop := Claim7.holds Tryd.pinned (.plain (OpenSpec.upto fieldManySpec)) fieldManyUptoCard

/-- THE SECOND FORM's CARD OF 'palfreylaw06.FieldNought'. -/
def fieldNoughtUptoCard : Claim7 := { stood := { row := fieldNoughtUptoRow, standIns := [], harness := (true, "946cec2dabdf0e5d4bd5446904361ad3bb218e4c14df145e94122f6dee0b858f"), looks := false }, kinds := [], alts := [], laidByText := true, laidKinds := [.data], laidTests := true, laidLooks := .later }
def FieldNoughtUptoCardSaid : Prop := Claim7.holds Tryd.pinned (.plain (OpenSpec.upto fieldNoughtSpec)) fieldNoughtUptoCard
end Rows
end Go.Proofs.YteognebhlehjlaaDoor
