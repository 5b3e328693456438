/-
  DERIVED. GIVEN WITH THE SEED: THE CARDS: each row of YtmnohmhhmaeljaaDoorRows.lean that lists a variable, with what it lists TIED to the program's text (the seventh form; the later family's looks); each row that meets fmt, with fmt's text TOLD by the authors' own Lean function (tested against real Go, not proved from fmt's source: count such statements apart). THE CARD IS WHAT COUNTS. Prove the row's statement (the work); the ties are given (YtmnohmhhmaeljaaDoorTie.lean); close each card by the builder's one call (the guide's Derived/Test/ToyasCard.lean, 'card_holds'). Laid BY PROGRAM, IN A SANDBOX (cutbox-door.mjs). By AI agents, Wed Nov 11 2026. No macro, syntax, notation, axiom, sorry.
-/
import Derived.Test.YtmnohmhhmaeljaaDoorRows
import GoSem.ClaimSeven
namespace Go.Proofs.YtmnohmhhmaeljaaDoor
namespace Rows

/-- THE TIED CARD OF 'palfreylaw17.ReportReads'. -/
def reportReadsCard : Claim7 := { stood := { row := reportReadsRow, standIns := [], harness := (true, "5bd4c1106e9c592e1bf83bee319e2f88cbca4de06f6d6bf5d7e1cf8e00851d03"), looks := true }, kinds := [], alts := [], laidByText := true, laidKinds := [.data], laidTests := true, laidLooks := .later }
def ReportReadsCardSaid : Prop := Claim7.holds Tryd.pinned (.plain (OpenSpec.ofChange reportReadsSpec)) reportReadsCard

/-- THE TIED CARD OF 'palfreylaw17.ReportChecks'. -/
def reportChecksCard : Claim7 := { stood := { row := reportChecksRow, standIns := [], harness := (true, "5bd4c1106e9c592e1bf83bee319e2f88cbca4de06f6d6bf5d7e1cf8e00851d03"), looks := true }, kinds := [], alts := [], laidByText := true, laidKinds := [.data], laidTests := true, laidLooks := .later }
def ReportChecksCardSaid : Prop := Claim7.holds Tryd.pinned (.plain (OpenSpec.ofChange reportChecksSpec)) reportChecksCard

/-- THE TIED CARD OF 'palfreylaw17.ReportBack'. -/
def reportBackCard : Claim7 := { stood := { row := reportBackRow, standIns := [], harness := (true, "5bd4c1106e9c592e1bf83bee319e2f88cbca4de06f6d6bf5d7e1cf8e00851d03"), looks := true }, kinds := [], alts := [], laidByText := true, laidKinds := [.data], laidTests := true, laidLooks := .later }
def ReportBackCardSaid : Prop := Claim7.holds Tryd.pinned (.plain (OpenSpec.ofChange reportBackSpec)) reportBackCard

/-- THE TIED CARD OF 'palfreylaw17.ReportTurned'. -/
def reportTurnedCard : Claim7 := { stood := { row := reportTurnedRow, standIns := [], harness := (true, "5bd4c1106e9c592e1bf83bee319e2f88cbca4de06f6d6bf5d7e1cf8e00851d03"), looks := true }, kinds := [], alts := [], laidByText := true, laidKinds := [.data], laidTests := true, laidLooks := .later }
def ReportTurnedCardSaid : Prop := Claim7.holds Tryd.pinned (.plain (OpenSpec.ofChange reportTurnedSpec)) reportTurnedCard

/-- THE TIED CARD OF 'palfreylaw20.RelayPlays'. -/
def relayPlaysCard : Claim7 := { stood := { row := relayPlaysRow, standIns := [], harness := (true, "5bd4c1106e9c592e1bf83bee319e2f88cbca4de06f6d6bf5d7e1cf8e00851d03"), looks := true }, kinds := [], alts := [], laidByText := true, laidKinds := [.data], laidTests := true, laidLooks := .later }
def RelayPlaysCardSaid : Prop := Claim7.holds Tryd.pinned (.plain (OpenSpec.ofChange relayPlaysSpec)) relayPlaysCard

/-- THE TIED CARD OF 'palfreylaw20.RelayOnce'. -/
def relayOnceCard : Claim7 := { stood := { row := relayOnceRow, standIns := [], harness := (true, "5bd4c1106e9c592e1bf83bee319e2f88cbca4de06f6d6bf5d7e1cf8e00851d03"), looks := true }, kinds := [], alts := [], laidByText := true, laidKinds := [.data], laidTests := true, laidLooks := .later }
def RelayOnceCardSaid : Prop := Claim7.holds Tryd.pinned (.plain (OpenSpec.ofChange relayOnceSpec)) relayOnceCard

/-- THE TIED CARD OF 'palfreylaw20.RelaySends'. -/
def relaySendsCard : Claim7 := { stood := { row := relaySendsRow, standIns := [], harness := (true, "5bd4c1106e9c592e1bf83bee319e2f88cbca4de06f6d6bf5d7e1cf8e00851d03"), looks := true }, kinds := [], alts := [], laidByText := true, laidKinds := [.data], laidTests := true, laidLooks := .later }
def RelaySendsCardSaid : Prop := Claim7.holds Tryd.pinned (.plain (OpenSpec.ofChange relaySendsSpec)) relaySendsCard

/-- THE TIED CARD OF 'palfreylaw20.RelayRates'. -/
def relayRatesCard : Claim7 := { stood := { row := relayRatesRow, standIns := [], harness := (true, "5bd4c1106e9c592e1bf83bee319e2f88cbca4de06f6d6bf5d7e1cf8e00851d03"), looks := true }, kinds := [], alts := [], laidByText := true, laidKinds := [.data], laidTests := true, laidLooks := .later }
def RelayRatesCardSaid : Prop := Claim7.holds Tryd.pinned (.plain (OpenSpec.ofChange relayRatesSpec)) relayRatesCard

/-- THE TIED CARD OF 'palfreylaw20.RelayBoth'. -/
def relayBothCard : Claim7 := { stood := { row := relayBothRow, standIns := [], harness := (true, "5bd4c1106e9c592e1bf83bee319e2f88cbca4de06f6d6bf5d7e1cf8e00851d03"), looks := true }, kinds := [], alts := [], laidByText := true, laidKinds := [.data], laidTests := true, laidLooks := .later }
def RelayBothCardSaid : Prop := Claim7.holds Tryd.pinned (.plain (OpenSpec.ofChange relayBothSpec)) relayBothCard

/-- THE TIED CARD OF 'palfreylaw20.RelaySuspends'. -/
def relaySuspendsCard : Claim7 := { stood := { row := relaySuspendsRow, standIns := [], harness := (true, "5bd4c1106e9c592e1bf83bee319e2f88cbca4de06f6d6bf5d7e1cf8e00851d03"), looks := true }, kinds := [], alts := [], laidByText := true, laidKinds := [.data], laidTests := true, laidLooks := .later }
def RelaySuspendsCardSaid : Prop := Claim7.holds Tryd.pinned (.plain (OpenSpec.ofChange relaySuspendsSpec)) relaySuspendsCard

/-- THE TIED CARD OF 'palfreylaw20.RelayMacs'. -/
def relayMacsCard : Claim7 := { stood := { row := relayMacsRow, standIns := [], harness := (true, "5bd4c1106e9c592e1bf83bee319e2f88cbca4de06f6d6bf5d7e1cf8e00851d03"), looks := true }, kinds := [], alts := [], laidByText := true, laidKinds := [.data], laidTests := true, laidLooks := .later }
def RelayMacsCardSaid : Prop := Claim7.holds Tryd.pinned (.plain (OpenSpec.ofChange relayMacsSpec)) relayMacsCard

/-- THE SECOND FORM's CARD OF 'palfreylaw17.ReportReads'. -/
def reportReadsUptoCard : Claim7 := { stood := { row := reportReadsUptoRow, standIns := [], harness := (true, "5bd4c1106e9c592e1bf83bee319e2f88cbca4de06f6d6bf5d7e1cf8e00851d03"), looks := true }, kinds := [], alts := [], laidByText := true, laidKinds := [.data], laidTests := true, laidLooks := .later }
def ReportReadsUptoCardSaid : Prop := Claim7.holds Tryd.pinned (.plain (OpenSpec.upto reportReadsSpec)) reportReadsUptoCard

/-- THE SECOND FORM's CARD OF 'palfreylaw17.ReportChecks'. -/
def reportChecksUptoCard : Claim7 := { stood := { row := reportChecksUptoRow, standIns := [], harness := (true, "5bd4c1106e9c592e1bf83bee319e2f88cbca4de06f6d6bf5d7e1cf8e00851d03"), looks := true }, kinds := [], alts := [], laidByText := true, laidKinds := [.data], laidTests := true, laidLooks := .later }
def ReportChecksUptoCardSaid : Prop := Claim7.holds Tryd.pinned (.plain (OpenSpec.upto reportChecksSpec)) reportChecksUptoCard

/-- THE SECOND FORM's CARD OF 'palfreylaw17.ReportBack'. -/
def reportBackUptoCard : Claim7 := { stood := { row := reportBackUptoRow, standIns := [], harness := (true, "5bd4c1106e9c592e1bf83bee319e2f88cbca4de06f6d6bf5d7e1cf8e00851d03"), looks := true }, kinds := [], alts := [], laidByText := true, laidKinds := [.data], laidTests := true, laidLooks := .later }
def ReportBackUptoCardSaid : Prop := Claim7.holds Tryd.pinned (.plain (OpenSpec.upto reportBackSpec)) reportBackUptoCard

/-- THE SECOND FORM's CARD OF 'palfreylaw17.ReportTurned'. -/
def reportTurnedUptoCard : Claim7 := { stood := { row := reportTurnedUptoRow, standIns := [], harness := (true, "5bd4c1106e9c592e1bf83bee319e2f88cbca4de06f6d6bf5d7e1cf8e00851d03"), looks := true }, kinds := [], alts := [], laidByText := true, laidKinds := [.data], laidTests := true, laidLooks := .later }
def ReportTurnedUptoCardSaid : Prop := Claim7.holds Tryd.pinned (.plain (OpenSpec.upto reportTurnedSpec)) reportTurnedUptoCard

/-- THE SECOND FORM's CARD OF 'palfreylaw20.RelayPlays'. -/
def relayPlaysUptoCard : Claim7 := { stood := { row := relayPlaysUptoRow, standIns := [], harness := (true, "5bd4c1106e9c592e1bf83bee319e2f88cbca4de06f6d6bf5d7e1cf8e00851d03"), looks := true }, kinds := [], alts := [], laidByText := true, laidKinds := [.data], laidTests := true, laidLooks := .later }
def RelayPlaysUptoCardSaid : Prop := Claim7.holds Tryd.pinned (.plain (OpenSpec.upto relayPlaysSpec)) relayPlaysUptoCard

/-- THE SECOND FORM's CARD OF 'palfreylaw20.RelayOnce'. -/
def relayOnceUptoCard : Claim7 := { stood := { row := relayOnceUptoRow, standIns := [], harness := (true, "5bd4c1106e9c592e1bf83bee319e2f88cbca4de06f6d6bf5d7e1cf8e00851d03"), looks := true }, kinds := [], alts := [], laidByText := true, laidKinds := [.data], laidTests := true, laidLooks := .later }
def RelayOnceUptoCardSaid : Prop := Claim7.holds Tryd.pinned (.plain (OpenSpec.upto relayOnceSpec)) relayOnceUptoCard

/-- THE SECOND FORM's CARD OF 'palfreylaw20.RelaySends'. -/
def relaySendsUptoCard : Claim7 := { stood := { row := relaySendsUptoRow, standIns := [], harness := (true, "5bd4c1106e9c592e1bf83bee319e2f88cbca4de06f6d6bf5d7e1cf8e00851d03"), looks := true }, kinds := [], alts := [], laidByText := true, laidKinds := [.data], laidTests := true, laidLooks := .later }
def RelaySendsUptoCardSaid : Prop := Claim7.holds Tryd.pinned (.plain (OpenSpec.upto relaySendsSpec)) relaySendsUptoCard

/-- THE SECOND FORM's CARD OF 'palfreylaw20.RelayRates'. -/
def relayRatesUptoCard : Claim7 := { stood := { row := relayRatesUptoRow, standIns := [], harness := (true, "5bd4c1106e9c592e1bf83bee319e2f88cbca4de06f6d6bf5d7e1cf8e00851d03"), looks := true }, kinds := [], alts := [], laidByText := true, laidKinds := [.data], laidTests := true, laidLooks := .later }
def RelayRatesUptoCardSaid : Prop := Claim7.holds Tryd.pinned (.plain (OpenSpec.upto relayRatesSpec)) relayRatesUptoCard

/-- THE SECOND FORM's CARD OF 'palfreylaw20.RelayBoth'. -/
def relayBothUptoCard : Claim7 := { stood := { row := relayBothUptoRow, standIns := [], harness := (true, "5bd4c1106e9c592e1bf83bee319e2f88cbca4de06f6d6bf5d7e1cf8e00851d03"), looks := true }, kinds := [], alts := [], laidByText := true, laidKinds := [.data], laidTests := true, laidLooks := .later }
def RelayBothUptoCardSaid : Prop := Claim7.holds Tryd.pinned (.plain (OpenSpec.upto relayBothSpec)) relayBothUptoCard

/-- THE SECOND FORM's CARD OF 'palfreylaw20.RelaySuspends'. -/
def relaySuspendsUptoCard : Claim7 := { stood := { row := relaySuspendsUptoRow, standIns := [], harness := (true, "5bd4c1106e9c592e1bf83bee319e2f88cbca4de06f6d6bf5d7e1cf8e00851d03"), looks := true }, kinds := [], alts := [], laidByText := true, laidKinds := [.data], laidTests := true, laidLooks := .later }
def RelaySuspendsUptoCardSaid : Prop := Claim7.holds Tryd.pinned (.plain (OpenSpec.upto relaySuspendsSpec)) relaySuspendsUptoCard

/-- THE SECOND FORM's CARD OF 'palfreylaw20.RelayMacs'. -/
def relayMacsUptoCard : Claim7 := { stood := { row := relayMacsUptoRow, standIns := [], harness := (true, "5bd4c1106e9c592e1bf83bee319e2f88cbca4de06f6d6bf5d7e1cf8e00851d03"), looks := true }, kinds := [], alts := [], laidByText := true, laidKinds := [.data], laidTests := true, laidLooks := .later }
def RelayMacsUptoCardSaid : Prop := Claim7.holds Tryd.pinned (.plain (OpenSpec.upto relayMacsSpec)) relayMacsUptoCard
end Rows
end Go.Proofs.YtmnohmhhmaeljaaDoor
