/-
  DERIVED. GIVEN WITH THE SEED: THE CARDS: each row of YtbnjmmefnjoofaaDoorRows.lean that lists a variable, with what it lists TIED to the program's text (the seventh form; the later family's looks); each row that meets fmt, with fmt's text TOLD by the authors' own Lean function (tested against real Go, not proved from fmt's source: count such statements apart). THE CARD IS WHAT COUNTS. Prove the row's statement (the work); the ties are given (YtbnjmmefnjoofaaDoorTie.lean); close each card by the builder's one call (the guide's Derived/Test/ToyasCard.lean, 'card_holds'). Laid BY PROGRAM, IN A SANDBOX (cutbox-door.mjs). By AI agents, Wed Nov 11 2026. No macro, syntax, notation, axiom, sorry.
-/
import Derived.Test.YtbnjmmefnjoofaaDoorRows
import GoSem.ClaimSeven
namespace Go.Proofs.YtbnjmmefnjoofaaDoor
namespace Rows

/-- THE TIED CARD OF 'palfreylaw20.RelayPlays'. -/
def relayPlaysCard : Claim7 := { stood := { row := relayPlaysRow, standIns := [], harness := (true, "c6b027be2c929be4d42f6b3089825acacac37ab4716eae327bfadc99823418d4"), looks := false }, kinds := [], alts := [], laidByText := true, laidKinds := [.data], laidTests := true, laidLooks := .later }
def RelayPlaysCardSaid : Prop := Claim7.holds Tryd.pinned (.plain (OpenSpec.ofChange relayPlaysSpec)) relayPlaysCard

/-- THE TIED CARD OF 'palfreylaw20.RelayOnce'. -/
def relayOnceCard : Claim7 := { stood := { row := relayOnceRow, standIns := [], harness := (true, "c6b027be2c929be4d42f6b3089825acacac37ab4716eae327bfadc99823418d4"), looks := false }, kinds := [], alts := [], laidByText := true, laidKinds := [.data], laidTests := true, laidLooks := .later }
def RelayOnceCardSaid : Prop := Claim7.holds Tryd.pinned (.plain (OpenSpec.ofChange relayOnceSpec)) relayOnceCard

/-- THE TIED CARD OF 'palfreylaw20.RelaySends'. -/
def relaySendsCard : Claim7 := { stood := { row := relaySendsRow, standIns := [], harness := (true, "c6b027be2c929be4d42f6b3089825acacac37ab4716eae327bfadc99823418d4"), looks := false }, kinds := [], alts := [], laidByText := true, laidKinds := [.data], laidTests := true, laidLooks := .later }
def RelaySendsCardSaid : Prop := Claim7.holds Tryd.pinned (.plain (OpenSpec.ofChange relaySendsSpec)) relaySendsCard

/-- THE TIED CARD OF 'palfreylaw20.RelayRates'. -/
def relayRatesCard : Claim7 := { stood := { row := relayRatesRow, standIns := [], harness := (true, "c6b027be2c929be4d42f6b3089825acacac37ab4716eae327bfadc99823418d4"), looks := false }, kinds := [], alts := [], laidByText := true, laidKinds := [.data], laidTests := true, laidLooks := .later }
def RelayRatesCardSaid : Prop := Claim7.holds Tryd.pinned (.plain (OpenSpec.ofChange relayRatesSpec)) relayRatesCard

/-- THE TIED CARD OF 'palfreylaw20.RelayBoth'. -/
def relayBothCard : Claim7 := { stood := { row := relayBothRow, standIns := [], harness := (true, "c6b027be2c929be4d42f6b3089825acacac37ab4716eae327bfadc99823418d4"), looks := false }, kinds := [], alts := [], laidByText := true, laidKinds := [.data], laidTests := true, laidLooks := .later }
def RelayBothCardSaid : Prop := Claim7.holds Tryd.pinned (.plain (OpenSpec.ofChange relayBothSpec)) relayBothCard

/-- THE TIED CARD OF 'palfreylaw20.RelaySuspends'. -/
def relaySuspendsCard : Claim7 := { stood := { row := relaySuspendsRow, standIns := [], harness := (true, "c6b027be2c929be4d42f6b3089825acacac37ab4716eae327bfadc99823418d4"), looks := false }, kinds := [], alts := [], laidByText := true, laidKinds := [.data], laidTests := true, laidLooks := .later }
def RelaySuspendsCardSaid : Prop := Claim7.holds Tryd.pinned (.plain (OpenSpec.ofChange relaySuspendsSpec)) relaySuspendsCard

/-- THE TIED CARD OF 'palfreylaw20.RelayMacs'. -/
def relayMacsCard : Claim7 := { stood := { row := relayMacsRow, standIns := [], harness := (true, "c6b027be2c929be4d42f6b3089825acacac37ab4716eae327bfadc99823418d4"), looks := false }, kinds := [], alts := [], laidByText := true, laidKinds := [.data], laidTests := true, laidLooks := .later }
def RelayMacsCardSaid : Prop := Claim7.holds Tryd.pinned (.plain (OpenSpec.ofChange relayMacsSpec)) relayMacsCard

/-- THE SECOND FORM's CARD OF 'palfreylaw20.RelayPlays'. -/
def relayPlaysUptoCard : Claim7 := { stood := { row := relayPlaysUptoRow, standIns := [], harness := (true, "c6b027be2c929be4d42f6b3089825acacac37ab4716eae327bfadc99823418d4"), looks := false }, kinds := [], alts := [], laidByText := true, laidKinds := [.data], laidTests := true, laidLooks := .later }
def RelayPlaysUptoCardSaid : Prop := Claim7.holds Tryd.pinned (.plain (OpenSpec.upto relayPlaysSpec)) relayPlaysUptoCard

/-- THE SECOND FORM's CARD OF 'palfreylaw20.RelayOnce'. -/
def relayOnceUptoCard : Claim7 := { stood := { row := relayOnceUptoRow, standIns := [], harness := (true, "c6b027be2c929be4d42f6b3089825acacac37ab4716eae327bfadc99823418d4"), looks := false }, kinds := [], alts := [], laidByText := true, laidKinds := [.data], laidTests := true, laidLooks := .later }
def RelayOnceUptoCardSaid : Prop := Claim7.holds Tryd.pinned (.plain (OpenSpec.upto relayOnceSpec)) relayOnceUptoCard

/-- THE SECOND FORM's CARD OF 'palfreylaw20.RelaySends'. -/
def relaySendsUptoCard : Claim7 := { stood := { row := relaySendsUptoRow, standIns := [], harness := (true, "c6b027be2c929be4d42f6b3089825acacac37ab4716eae327bfadc99823418d4"), looks := false }, kinds := [], alts := [], laidByText := true, laidKinds := [.data], laidTests := true, laidLooks := .later }
def RelaySendsUptoCardSaid : Prop := Claim7.holds Tryd.pinned (.plain (OpenSpec.upto relaySendsSpec)) relaySendsUptoCard

/-- THE SECOND FORM's CARD OF 'palfreylaw20.RelayRates'. -/
def relayRatesUptoCard : Claim7 := { stood := { row := relayRatesUptoRow, standIns := [], harness := (true, "c6b027be2c929be4d42f6b3089825acacac37ab4716eae327bfadc99823418d4"), looks := false }, kinds := [], alts := [], laidByText := true, laidKinds := [.data], laidTests := true, laidLooks := .later }
def RelayRatesUptoCardSaid : Prop := Claim7.holds Tryd.pinned (.plain (OpenSpec.upto relayRatesSpec)) relayRatesUptoCard

/-- THE SECOND FORM's CARD OF 'palfreylaw20.RelayBoth'. -/
def relayBothUptoCard : Claim7 := { stood := { row := relayBothUptoRow, standIns := [], harness := (true, "c6b027be2c929be4d42f6b3089825acacac37ab4716eae327bfadc99823418d4"), looks := false }, kinds := [], alts := [], laidByText := true, laidKinds := [.data], laidTests := true, laidLooks := .later }
def RelayBothUptoCardSaid : Prop := Claim7.holds Tryd.pinned (.plain (OpenSpec.upto relayBothSpec)) relayBothUptoCard

/-- THE SECOND FORM's CARD OF 'palfreylaw20.RelaySuspends'. -/
def relaySuspendsUptoCard : Claim7 := { stood := { row := relaySuspendsUptoRow, standIns := [], harness := (true, "c6b027be2c929be4d42f6b3089825acacac37ab4716eae327bfadc99823418d4"), looks := false }, kinds := [], alts := [], laidByText := true, laidKinds := [.data], laidTests := true, laidLooks := .later }
def RelaySuspendsUptoCardSaid : Prop := Claim7.holds Tryd.pinned (.plain (OpenSpec.upto relaySuspendsSpec)) relaySuspendsUptoCard

/-- THE SECOND FORM's CARD OF 'palfreylaw20.RelayMacs'. -/
def relayMacsUptoCard : Claim7 := { stood := { row := relayMacsUptoRow, standIns := [], harness := (true, "c6b027be2c929be4d42f6b3089825acacac37ab4716eae327bfadc99823418d4"), looks := false }, kinds := [], alts := [], laidByText := true, laidKinds := [.data], laidTests := true, laidLooks := .later }
def RelayMacsUptoCardSaid : Prop := Claim7.holds Tryd.pinned (.plain (OpenSpec.upto relayMacsSpec)) relayMacsUptoCard
end Rows
end Go.Proofs.YtbnjmmefnjoofaaDoor
