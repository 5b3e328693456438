/-
  DERIVED. GIVEN WITH THE SEED: THE CARDS: each row of YtbkmnmhfjgmoiaaDoorRows.lean that lists a variable, with what it lists TIED to the program's text (the seventh form; the later family's looks); each row that meets fmt, with fmt's text TOLD by the authors' own Lean function (tested against real Go, not proved from fmt's source: count such statements apart). THE CARD IS WHAT COUNTS. Prove the row's statement (the work); the ties are given (YtbkmnmhfjgmoiaaDoorTie.lean); close each card by the builder's one call (the guide's Derived/Test/ToyasCard.lean, 'card_holds'). Laid BY PROGRAM, IN A SANDBOX (cutbox-door.mjs). By AI agents, Wed Nov 11 2026. No macro, syntax, notation, axiom, sorry.
-/
import Derived.Test.YtbkmnmhfjgmoiaaDoorRows
import GoSem.ClaimSeven
namespace Go.Proofs.YtbkmnmhfjgmoiaaDoor
namespace Rows

/-- THE TIED CARD OF 'palfreylaw16.StampMakes'. -/
def stampMakesCard : Claim7 := { stood := { row := stampMakesRow, standIns := [], harness := (true, "22ba2771500bf6fe6acbad810d18fe08538b2d3f058c62f6e14c593563d0705d"), looks := false }, kinds := [], alts := [], laidByText := true, laidKinds := [.data], laidTests := true, laidLooks := .later }
def StampMakesCardSaid : Prop := Claim7.holds Tryd.pinned (.plain (OpenSpec.ofChange stampMakesSpec)) stampMakesCard

/-- THE TIED CARD OF 'palfreylaw16.StampChecks'. -/
def stampChecksCard : Claim7 := { stood := { row := stampChecksRow, standIns := [], harness := (true, "22ba2771500bf6fe6acbad810d18fe08538b2d3f058c62f6e14c593563d0705d"), looks := false }, kinds := [], alts := [], laidByText := true, laidKinds := [.data], laidTests := true, laidLooks := .later }
def StampChecksCardSaid : Prop := Claim7.holds Tryd.pinned (.plain (OpenSpec.ofChange stampChecksSpec)) stampChecksCard

/-- THE TIED CARD OF 'palfreylaw16.StampReads'. -/
def stampReadsCard : Claim7 := { stood := { row := stampReadsRow, standIns := [], harness := (true, "22ba2771500bf6fe6acbad810d18fe08538b2d3f058c62f6e14c593563d0705d"), looks := false }, kinds := [], alts := [], laidByText := true, laidKinds := [.data], laidTests := true, laidLooks := .later }
def StampReadsCardSaid : Prop := Claim7.holds Tryd.pinned (.plain (OpenSpec.ofChange stampReadsSpec)) stampReadsCard

/-- THE TIED CARD OF 'palfreylaw16.StampWindow'. -/
def stampWindowCard : Claim7 := { stood := { row := stampWindowRow, standIns := [], harness := (true, "22ba2771500bf6fe6acbad810d18fe08538b2d3f058c62f6e14c593563d0705d"), looks := false }, kinds := [], alts := [], laidByText := true, laidKinds := [.data], laidTests := true, laidLooks := .later }
def StampWindowCardSaid : Prop := Claim7.holds Tryd.pinned (.plain (OpenSpec.ofChange stampWindowSpec)) stampWindowCard

/-- THE TIED CARD OF 'palfreylaw16.StampEpochs'. -/
def stampEpochsCard : Claim7 := { stood := { row := stampEpochsRow, standIns := [], harness := (true, "22ba2771500bf6fe6acbad810d18fe08538b2d3f058c62f6e14c593563d0705d"), looks := false }, kinds := [], alts := [], laidByText := true, laidKinds := [.data], laidTests := true, laidLooks := .later }
def StampEpochsCardSaid : Prop := Claim7.holds Tryd.pinned (.plain (OpenSpec.ofChange stampEpochsSpec)) stampEpochsCard

/-- THE SECOND FORM's CARD OF 'palfreylaw16.StampMakes'. -/
def stampMakesUptoCard : Claim7 := { stood := { row := stampMakesUptoRow, standIns := [], harness := (true, "22ba2771500bf6fe6acbad810d18fe08538b2d3f058c62f6e14c593563d0705d"), looks := false }, kinds := [], alts := [], laidByText := true, laidKinds := [.data], laidTests := true, laidLooks := .later }
def StampMakesUptoCardSaid : Prop := Claim7.holds Tryd.pinned (.plain (OpenSpec.upto stampMakesSpec)) stampMakesUptoCard

/-- THE SECOND FORM's CARD OF 'palfreylaw16.StampChecks'. -/
def stampChecksUptoCard : Claim7 := { stood := { row := stampChecksUptoRow, standIns := [], harness := (true, "22ba2771500bf6fe6acbad810d18fe08538b2d3f058c62f6e14c593563d0705d"), looks := false }, kinds := [], alts := [], laidByText := true, laidKinds := [.data], laidTests := true, laidLooks := .later }
def StampChecksUptoCardSaid : Prop := Claim7.holds Tryd.pinned (.plain (OpenSpec.upto stampChecksSpec)) stampChecksUptoCard

/-- THE SECOND FORM's CARD OF 'palfreylaw16.StampReads'. -/
def stampReadsUptoCard : Claim7 := { stood := { row := stampReadsUptoRow, standIns := [], harness := (true, "22ba2771500bf6fe6acbad810d18fe08538b2d3f058c62f6e14c593563d0705d"), looks := false }, kinds := [], alts := [], laidByText := true, laidKinds := [.data], laidTests := true, laidLooks := .later }
def StampReadsUptoCardSaid : Prop := Claim7.holds Tryd.pinned (.plain (OpenSpec.upto stampReadsSpec)) stampReadsUptoCard

/-- THE SECOND FORM's CARD OF 'palfreylaw16.StampWindow'. -/
def stampWindowUptoCard : Claim7 := { stood := { row := stampWindowUptoRow, standIns := [], harness := (true, "22ba2771500bf6fe6acbad810d18fe08538b2d3f058c62f6e14c593563d0705d"), looks := false }, kinds := [], alts := [], laidByText := true, laidKinds := [.data], laidTests := true, laidLooks := .later }
def StampWindowUptoCardSaid : Prop := Claim7.holds Tryd.pinned (.plain (OpenSpec.upto stampWindowSpec)) stampWindowUptoCard

/-- THE SECOND FORM's CARD OF 'palfreylaw16.StampEpochs'. -/
def stampEpochsUptoCard : Claim7 := { stood := { row := stampEpochsUptoRow, standIns := [], harness := (true, "22ba2771500bf6fe6acbad810d18fe08538b2d3f058c62f6e14c593563d0705d"), looks := false }, kinds := [], alts := [], laidByText := true, laidKinds := [.data], laidTests := true, laidLooks := .later }
def StampEpochsUptoCardSaid : Prop := Claim7.holds Tryd.pinned (.plain (OpenSpec.upto stampEpochsSpec)) stampEpochsUptoCard
end Rows
end Go.Proofs.YtbkmnmhfjgmoiaaDoor
