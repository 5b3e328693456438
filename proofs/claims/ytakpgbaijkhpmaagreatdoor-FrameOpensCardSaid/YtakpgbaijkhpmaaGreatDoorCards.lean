/-
  DERIVED. GIVEN WITH THE SEED: THE CARDS: each row of YtakpgbaijkhpmaaGreatDoorRows.lean that lists a variable, with what it lists TIED to the program's text (the seventh form; the later family's looks); each row that meets fmt, with fmt's text TOLD by the authors' own Lean function (tested against real Go, not proved from fmt's source: count such statements apart). THE CARD IS WHAT COUNTS. Prove the row's statement (the work); the ties are given (YtakpgbaijkhpmaaGreatDoorTie.lean); close each card by the builder's one call (the guide's Derived/Test/ToyasCard.lean, 'card_holds'). Laid BY PROGRAM, IN A SANDBOX (cutbox-door.mjs). By AI agents, Wed Nov 11 2026. No macro, syntax, notation, axiom, sorry.
-/
import Derived.Test.YtakpgbaijkhpmaaGreatDoorRows
import GoSem.ClaimSeven
namespace Go.Proofs.YtakpgbaijkhpmaaGreatDoor
namespace Rows

/-- THE TIED CARD OF 'palfreylaw13.RatchetPlays'. -/
def ratchetPlaysCard : Claim7 := { stood := { row := ratchetPlaysRow, standIns := [], harness := (true, "561188ff508e65732c7cc8761c7b7ee6b147fb3496d80088e06ebece52d701ce"), looks := false }, kinds := [], alts := [], laidByText := true, laidKinds := [.data, .data], laidTests := true, laidLooks := .later }
def RatchetPlaysCardSaid : Prop := Claim7.holds Tryz.pinned (.plain (OpenSpec.ofChange ratchetPlaysSpec)) ratchetPlaysCard

/-- THE TIED CARD OF 'palfreylaw13.RatchetHeads'. -/
def ratchetHeadsCard : Claim7 := { stood := { row := ratchetHeadsRow, standIns := [], harness := (true, "561188ff508e65732c7cc8761c7b7ee6b147fb3496d80088e06ebece52d701ce"), looks := false }, kinds := [], alts := [], laidByText := true, laidKinds := [.data, .data], laidTests := true, laidLooks := .later }
def RatchetHeadsCardSaid : Prop := Claim7.holds Tryz.pinned (.plain (OpenSpec.ofChange ratchetHeadsSpec)) ratchetHeadsCard

/-- THE TIED CARD OF 'palfreylaw13.RatchetOrder'. -/
def ratchetOrderCard : Claim7 := { stood := { row := ratchetOrderRow, standIns := [], harness := (true, "561188ff508e65732c7cc8761c7b7ee6b147fb3496d80088e06ebece52d701ce"), looks := false }, kinds := [], alts := [], laidByText := true, laidKinds := [.data, .data], laidTests := true, laidLooks := .later }
def RatchetOrderCardSaid : Prop := Claim7.holds Tryz.pinned (.plain (OpenSpec.ofChange ratchetOrderSpec)) ratchetOrderCard

/-- THE TIED CARD OF 'palfreylaw13.RatchetLate'. -/
def ratchetLateCard : Claim7 := { stood := { row := ratchetLateRow, standIns := [], harness := (true, "561188ff508e65732c7cc8761c7b7ee6b147fb3496d80088e06ebece52d701ce"), looks := false }, kinds := [], alts := [], laidByText := true, laidKinds := [.data, .data], laidTests := true, laidLooks := .later }
def RatchetLateCardSaid : Prop := Claim7.holds Tryz.pinned (.plain (OpenSpec.ofChange ratchetLateSpec)) ratchetLateCard

/-- THE TIED CARD OF 'palfreylaw13.RatchetSpoilt'. -/
def ratchetSpoiltCard : Claim7 := { stood := { row := ratchetSpoiltRow, standIns := [], harness := (true, "561188ff508e65732c7cc8761c7b7ee6b147fb3496d80088e06ebece52d701ce"), looks := false }, kinds := [], alts := [], laidByText := true, laidKinds := [.data, .data], laidTests := true, laidLooks := .later }
def RatchetSpoiltCardSaid : Prop := Claim7.holds Tryz.pinned (.plain (OpenSpec.ofChange ratchetSpoiltSpec)) ratchetSpoiltCard

/-- THE TIED CARD OF 'palfreylaw13.RatchetSkips'. -/
def ratchetSkipsCard : Claim7 := { stood := { row := ratchetSkipsRow, standIns := [], harness := (true, "561188ff508e65732c7cc8761c7b7ee6b147fb3496d80088e06ebece52d701ce"), looks := false }, kinds := [], alts := [], laidByText := true, laidKinds := [.data, .data], laidTests := true, laidLooks := .later }
def RatchetSkipsCardSaid : Prop := Claim7.holds Tryz.pinned (.plain (OpenSpec.ofChange ratchetSkipsSpec)) ratchetSkipsCard

/-- THE TIED CARD OF 'palfreylaw13.RatchetTurns'. -/
def ratchetTurnsCard : Claim7 := { stood := { row := ratchetTurnsRow, standIns := [], harness := (true, "561188ff508e65732c7cc8761c7b7ee6b147fb3496d80088e06ebece52d701ce"), looks := false }, kinds := [], alts := [], laidByText := true, laidKinds := [.data, .data], laidTests := true, laidLooks := .later }
def RatchetTurnsCardSaid : Prop := Claim7.holds Tryz.pinned (.plain (OpenSpec.ofChange ratchetTurnsSpec)) ratchetTurnsCard

/-- THE TIED CARD OF 'palfreylaw15.FramePlays'. -/
def framePlaysCard : Claim7 := { stood := { row := framePlaysRow, standIns := [], harness := (true, "561188ff508e65732c7cc8761c7b7ee6b147fb3496d80088e06ebece52d701ce"), looks := false }, kinds := [], alts := [], laidByText := true, laidKinds := [.data, .data], laidTests := true, laidLooks := .later }
def FramePlaysCardSaid : Prop := Claim7.holds Tryz.pinned (.plain (OpenSpec.ofChange framePlaysSpec)) framePlaysCard

/-- THE TIED CARD OF 'palfreylaw15.FrameLines'. -/
def frameLinesCard : Claim7 := { stood := { row := frameLinesRow, standIns := [], harness := (true, "561188ff508e65732c7cc8761c7b7ee6b147fb3496d80088e06ebece52d701ce"), looks := false }, kinds := [], alts := [], laidByText := true, laidKinds := [.data, .data], laidTests := true, laidLooks := .later }
def FrameLinesCardSaid : Prop := Claim7.holds Tryz.pinned (.plain (OpenSpec.ofChange frameLinesSpec)) frameLinesCard

/-- THE TIED CARD OF 'palfreylaw15.FrameOpens'. -/
def frameOpensCard : Claim7 := { stood := { row := frameOpensRow, standIns := [], harness := (true, "561188ff508e65732c7cc8761c7b7ee6b147fb3496d80088e06ebece52d701ce"), looks := false }, kinds := [], alts := [], laidByText := true, laidKinds := [.data, .data], laidTests := true, laidLooks := .later }
def FrameOpensCardSaid : Prop := Claim7.holds Tryz.pinned (.plain (OpenSpec.ofChange frameOpensSpec)) frameOpensCard

/-- THE TIED CARD OF 'palfreylaw15.FrameOrder'. -/
def frameOrderCard : Claim7 := { stood := { row := frameOrderRow, standIns := [], harness := (true, "561188ff508e65732c7cc8761c7b7ee6b147fb3496d80088e06ebece52d701ce"), looks := false }, kinds := [], alts := [], laidByText := true, laidKinds := [.data, .data], laidTests := true, laidLooks := .later }
def FrameOrderCardSaid : Prop := Claim7.holds Tryz.pinned (.plain (OpenSpec.ofChange frameOrderSpec)) frameOrderCard

/-- THE TIED CARD OF 'palfreylaw15.FrameWays'. -/
def frameWaysCard : Claim7 := { stood := { row := frameWaysRow, standIns := [], harness := (true, "561188ff508e65732c7cc8761c7b7ee6b147fb3496d80088e06ebece52d701ce"), looks := false }, kinds := [], alts := [], laidByText := true, laidKinds := [.data, .data], laidTests := true, laidLooks := .later }
def FrameWaysCardSaid : Prop := Claim7.holds Tryz.pinned (.plain (OpenSpec.ofChange frameWaysSpec)) frameWaysCard

/-- THE SECOND FORM's CARD OF 'palfreylaw13.RatchetPlays'. -/
def ratchetPlaysUptoCard : Claim7 := { stood := { row := ratchetPlaysUptoRow, standIns := [], harness := (true, "561188ff508e65732c7cc8761c7b7ee6b147fb3496d80088e06ebece52d701ce"), looks := false }, kinds := [], alts := [], laidByText := true, laidKinds := [.data, .data], laidTests := true, laidLooks := .later }
def RatchetPlaysUptoCardSaid : Prop := Claim7.holds Tryz.pinned (.plain (OpenSpec.upto ratchetPlaysSpec)) ratchetPlaysUptoCard

/-- THE SECOND FORM's CARD OF 'palfreylaw13.RatchetHeads'. -/
def ratchetHeadsUptoCard : Claim7 := { stood := { row := ratchetHeadsUptoRow, standIns := [], harness := (true, "561188ff508e65732c7cc8761c7b7ee6b147fb3496d80088e06ebece52d701ce"), looks := false }, kinds := [], alts := [], laidByText := true, laidKinds := [.data, .data], laidTests := true, laidLooks := .later }
def RatchetHeadsUptoCardSaid : Prop := Claim7.holds Tryz.pinned (.plain (OpenSpec.upto ratchetHeadsSpec)) ratchetHeadsUptoCard

/-- THE SECOND FORM's CARD OF 'palfreylaw13.RatchetOrder'. -/
def ratchetOrderUptoCard : Claim7 := { stood := { row := ratchetOrderUptoRow, standIns := [], harness := (true, "561188ff508e65732c7cc8761c7b7ee6b147fb3496d80088e06ebece52d701ce"), looks := false }, kinds := [], alts := [], laidByText := true, laidKinds := [.data, .data], laidTests := true, laidLooks := .later }
def RatchetOrderUptoCardSaid : Prop := Claim7.holds Tryz.pinned (.plain (OpenSpec.upto ratchetOrderSpec)) ratchetOrderUptoCard

/-- THE SECOND FORM's CARD OF 'palfreylaw13.RatchetLate'. -/
def ratchetLateUptoCard : Claim7 := { stood := { row := ratchetLateUptoRow, standIns := [], harness := (true, "561188ff508e65732c7cc8761c7b7ee6b147fb3496d80088e06ebece52d701ce"), looks := false }, kinds := [], alts := [], laidByText := true, laidKinds := [.data, .data], laidTests := true, laidLooks := .later }
def RatchetLateUptoCardSaid : Prop := Claim7.holds Tryz.pinned (.plain (OpenSpec.upto ratchetLateSpec)) ratchetLateUptoCard

/-- THE SECOND FORM's CARD OF 'palfreylaw13.RatchetSpoilt'. -/
def ratchetSpoiltUptoCard : Claim7 := { stood := { row := ratchetSpoiltUptoRow, standIns := [], harness := (true, "561188ff508e65732c7cc8761c7b7ee6b147fb3496d80088e06ebece52d701ce"), looks := false }, kinds := [], alts := [], laidByText := true, laidKinds := [.data, .data], laidTests := true, laidLooks := .later }
def RatchetSpoiltUptoCardSaid : Prop := Claim7.holds Tryz.pinned (.plain (OpenSpec.upto ratchetSpoiltSpec)) ratchetSpoiltUptoCard

/-- THE SECOND FORM's CARD OF 'palfreylaw13.RatchetSkips'. -/
def ratchetSkipsUptoCard : Claim7 := { stood := { row := ratchetSkipsUptoRow, standIns := [], harness := (true, "561188ff508e65732c7cc8761c7b7ee6b147fb3496d80088e06ebece52d701ce"), looks := false }, kinds := [], alts := [], laidByText := true, laidKinds := [.data, .data], laidTests := true, laidLooks := .later }
def RatchetSkipsUptoCardSaid : Prop := Claim7.holds Tryz.pinned (.plain (OpenSpec.upto ratchetSkipsSpec)) ratchetSkipsUptoCard

/-- THE SECOND FORM's CARD OF 'palfreylaw13.RatchetTurns'. -/
def ratchetTurnsUptoCard : Claim7 := { stood := { row := ratchetTurnsUptoRow, standIns := [], harness := (true, "561188ff508e65732c7cc8761c7b7ee6b147fb3496d80088e06ebece52d701ce"), looks := false }, kinds := [], alts := [], laidByText := true, laidKinds := [.data, .data], laidTests := true, laidLooks := .later }
def RatchetTurnsUptoCardSaid : Prop := Claim7.holds Tryz.pinned (.plain (OpenSpec.upto ratchetTurnsSpec)) ratchetTurnsUptoCard

/-- THE SECOND FORM's CARD OF 'palfreylaw15.FramePlays'. -/
def framePlaysUptoCard : Claim7 := { stood := { row := framePlaysUptoRow, standIns := [], harness := (true, "561188ff508e65732c7cc8761c7b7ee6b147fb3496d80088e06ebece52d701ce"), looks := false }, kinds := [], alts := [], laidByText := true, laidKinds := [.data, .data], laidTests := true, laidLooks := .later }
def FramePlaysUptoCardSaid : Prop := Claim7.holds Tryz.pinned (.plain (OpenSpec.upto framePlaysSpec)) framePlaysUptoCard

/-- THE SECOND FORM's CARD OF 'palfreylaw15.FrameLines'. -/
def frameLinesUptoCard : Claim7 := { stood := { row := frameLinesUptoRow, standIns := [], harness := (true, "561188ff508e65732c7cc8761c7b7ee6b147fb3496d80088e06ebece52d701ce"), looks := false }, kinds := [], alts := [], laidByText := true, laidKinds := [.data, .data], laidTests := true, laidLooks := .later }
def FrameLinesUptoCardSaid : Prop := Claim7.holds Tryz.pinned (.plain (OpenSpec.upto frameLinesSpec)) frameLinesUptoCard

/-- THE SECOND FORM's CARD OF 'palfreylaw15.FrameOpens'. -/
def frameOpensUptoCard : Claim7 := { stood := { row := frameOpensUptoRow, standIns := [], harness := (true, "561188ff508e65732c7cc8761c7b7ee6b147fb3496d80088e06ebece52d701ce"), looks := false }, kinds := [], alts := [], laidByText := true, laidKinds := [.data, .data], laidTests := true, laidLooks := .later }
def FrameOpensUptoCardSaid : Prop := Claim7.holds Tryz.pinned (.plain (OpenSpec.upto frameOpensSpec)) frameOpensUptoCard

/-- THE SECOND FORM's CARD OF 'palfreylaw15.FrameOrder'. -/
def frameOrderUptoCard : Claim7 := { stood := { row := frameOrderUptoRow, standIns := [], harness := (true, "561188ff508e65732c7cc8761c7b7ee6b147fb3496d80088e06ebece52d701ce"), looks := false }, kinds := [], alts := [], laidByText := true, laidKinds := [.data, .data], laidTests := true, laidLooks := .later }
def FrameOrderUptoCardSaid : Prop := Claim7.holds Tryz.pinned (.plain (OpenSpec.upto frameOrderSpec)) frameOrderUptoCard

/-- THE SECOND FORM's CARD OF 'palfreylaw15.FrameWays'. -/
def frameWaysUptoCard : Claim7 := { stood := { row := frameWaysUptoRow, standIns := [], harness := (true, "561188ff508e65732c7cc8761c7b7ee6b147fb3496d80088e06ebece52d701ce"), looks := false }, kinds := [], alts := [], laidByText := true, laidKinds := [.data, .data], laidTests := true, laidLooks := .later }
def FrameWaysUptoCardSaid : Prop := Claim7.holds Tryz.pinned (.plain (OpenSpec.upto frameWaysSpec)) frameWaysUptoCard
end Rows
end Go.Proofs.YtakpgbaijkhpmaaGreatDoor
