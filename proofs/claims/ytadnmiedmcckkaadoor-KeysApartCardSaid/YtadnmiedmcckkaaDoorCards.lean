/-
  DERIVED. GIVEN WITH THE SEED: THE CARDS: each row of YtadnmiedmcckkaaDoorRows.lean that lists a variable, with what it lists TIED to the program's text (the seventh form; the later family's looks); each row that meets fmt, with fmt's text TOLD by the authors' own Lean function (tested against real Go, not proved from fmt's source: count such statements apart). THE CARD IS WHAT COUNTS. Prove the row's statement (the work); the ties are given (YtadnmiedmcckkaaDoorTie.lean); close each card by the builder's one call (the guide's Derived/Test/ToyasCard.lean, 'card_holds'). Laid BY PROGRAM, IN A SANDBOX (cutbox-door.mjs). By AI agents, Wed Nov 11 2026. No macro, syntax, notation, axiom, sorry.
-/
import Derived.Test.YtadnmiedmcckkaaDoorRows
import GoSem.ClaimSeven
namespace Go.Proofs.YtadnmiedmcckkaaDoor
namespace Rows

/-- THE TIED CARD OF 'palfreylaw07.CurveMults'. -/
def curveMultsCard : Claim7 := { stood := { row := curveMultsRow, standIns := [], harness := (true, "2703d1e94d872f6981dd941af4bcd1101cbe4ae6d6e8c6c0a417d5d3ce5da2f8"), looks := false }, kinds := [], alts := [], laidByText := true, laidKinds := [.data], laidTests := true, laidLooks := .later }
def CurveMultsCardSaid : Prop := Claim7.holds Tryd.pinned (.plain (OpenSpec.ofChange curveMultsSpec)) curveMultsCard

/-- THE TIED CARD OF 'palfreylaw07.CurveCommon'. -/
def curveCommonCard : Claim7 := { stood := { row := curveCommonRow, standIns := [], harness := (true, "2703d1e94d872f6981dd941af4bcd1101cbe4ae6d6e8c6c0a417d5d3ce5da2f8"), looks := false }, kinds := [], alts := [], laidByText := true, laidKinds := [.data], laidTests := true, laidLooks := .later }
def CurveCommonCardSaid : Prop := Claim7.holds Tryd.pinned (.plain (OpenSpec.ofChange curveCommonSpec)) curveCommonCard

/-- THE TIED CARD OF 'palfreylaw07.CurveThree'. -/
def curveThreeCard : Claim7 := { stood := { row := curveThreeRow, standIns := [], harness := (true, "2703d1e94d872f6981dd941af4bcd1101cbe4ae6d6e8c6c0a417d5d3ce5da2f8"), looks := false }, kinds := [], alts := [], laidByText := true, laidKinds := [.data], laidTests := true, laidLooks := .later }
def CurveThreeCardSaid : Prop := Claim7.holds Tryd.pinned (.plain (OpenSpec.ofChange curveThreeSpec)) curveThreeCard

/-- THE TIED CARD OF 'palfreylaw07.CurveBits'. -/
def curveBitsCard : Claim7 := { stood := { row := curveBitsRow, standIns := [], harness := (true, "2703d1e94d872f6981dd941af4bcd1101cbe4ae6d6e8c6c0a417d5d3ce5da2f8"), looks := false }, kinds := [], alts := [], laidByText := true, laidKinds := [.data], laidTests := true, laidLooks := .later }
def CurveBitsCardSaid : Prop := Claim7.holds Tryd.pinned (.plain (OpenSpec.ofChange curveBitsSpec)) curveBitsCard

/-- THE TIED CARD OF 'palfreylaw07.CurveNumbers'. -/
def curveNumbersCard : Claim7 := { stood := { row := curveNumbersRow, standIns := [], harness := (true, "2703d1e94d872f6981dd941af4bcd1101cbe4ae6d6e8c6c0a417d5d3ce5da2f8"), looks := false }, kinds := [], alts := [], laidByText := true, laidKinds := [.data], laidTests := true, laidLooks := .later }
def CurveNumbersCardSaid : Prop := Claim7.holds Tryd.pinned (.plain (OpenSpec.ofChange curveNumbersSpec)) curveNumbersCard

/-- THE TIED CARD OF 'palfreylaw08.KeysPairs'. -/
def keysPairsCard : Claim7 := { stood := { row := keysPairsRow, standIns := [], harness := (true, "2703d1e94d872f6981dd941af4bcd1101cbe4ae6d6e8c6c0a417d5d3ce5da2f8"), looks := false }, kinds := [], alts := [], laidByText := true, laidKinds := [.data, .data], laidTests := true, laidLooks := .later }
def KeysPairsCardSaid : Prop := Claim7.holds Tryd.pinned (.plain (OpenSpec.ofChange keysPairsSpec)) keysPairsCard

/-- THE TIED CARD OF 'palfreylaw08.KeysSource'. -/
def keysSourceCard : Claim7 := { stood := { row := keysSourceRow, standIns := [], harness := (true, "2703d1e94d872f6981dd941af4bcd1101cbe4ae6d6e8c6c0a417d5d3ce5da2f8"), looks := false }, kinds := [], alts := [], laidByText := true, laidKinds := [.data, .data], laidTests := true, laidLooks := .later }
def KeysSourceCardSaid : Prop := Claim7.holds Tryd.pinned (.plain (OpenSpec.ofChange keysSourceSpec)) keysSourceCard

/-- THE TIED CARD OF 'palfreylaw08.KeysCommon'. -/
def keysCommonCard : Claim7 := { stood := { row := keysCommonRow, standIns := [], harness := (true, "2703d1e94d872f6981dd941af4bcd1101cbe4ae6d6e8c6c0a417d5d3ce5da2f8"), looks := false }, kinds := [], alts := [], laidByText := true, laidKinds := [.data, .data], laidTests := true, laidLooks := .later }
def KeysCommonCardSaid : Prop := Claim7.holds Tryd.pinned (.plain (OpenSpec.ofChange keysCommonSpec)) keysCommonCard

/-- THE TIED CARD OF 'palfreylaw08.KeysAgain'. -/
def keysAgainCard : Claim7 := { stood := { row := keysAgainRow, standIns := [], harness := (true, "2703d1e94d872f6981dd941af4bcd1101cbe4ae6d6e8c6c0a417d5d3ce5da2f8"), looks := false }, kinds := [], alts := [], laidByText := true, laidKinds := [.data, .data], laidTests := true, laidLooks := .later }
def KeysAgainCardSaid : Prop := Claim7.holds Tryd.pinned (.plain (OpenSpec.ofChange keysAgainSpec)) keysAgainCard

/-- THE TIED CARD OF 'palfreylaw08.KeysApart'. -/
def keysApartCard : Claim7 := { stood := { row := keysApartRow, standIns := [], harness := (true, "2703d1e94d872f6981dd941af4bcd1101cbe4ae6d6e8c6c0a417d5d3ce5da2f8"), looks := false }, kinds := [], alts := [], laidByText := true, laidKinds := [.data, .data], laidTests := true, laidLooks := .later }
def KeysApartCardSaid : Prop := Claim7.holds Tryd.pinned (.plain (OpenSpec.ofChange keysApartSpec)) keysApartCard

/-- THE SECOND FORM's CARD OF 'palfreylaw07.CurveMults'. -/
def curveMultsUptoCard : Claim7 := { stood := { row := curveMultsUptoRow, standIns := [], harness := (true, "2703d1e94d872f6981dd941af4bcd1101cbe4ae6d6e8c6c0a417d5d3ce5da2f8"), looks := false }, kinds := [], alts := [], laidByText := true, laidKinds := [.data], laidTests := true, laidLooks := .later }
def CurveMultsUptoCardSaid : Prop := Claim7.holds Tryd.pinned (.plain (OpenSpec.upto curveMultsSpec)) curveMultsUptoCard

/-- THE SECOND FORM's CARD OF 'palfreylaw07.CurveCommon'. -/
def curveCommonUptoCard : Claim7 := { stood := { row := curveCommonUptoRow, standIns := [], harness := (true, "2703d1e94d872f6981dd941af4bcd1101cbe4ae6d6e8c6c0a417d5d3ce5da2f8"), looks := false }, kinds := [], alts := [], laidByText := true, laidKinds := [.data], laidTests := true, laidLooks := .later }
def CurveCommonUptoCardSaid : Prop := Claim7.holds Tryd.pinned (.plain (OpenSpec.upto curveCommonSpec)) curveCommonUptoCard

/-- THE SECOND FORM's CARD OF 'palfreylaw07.CurveThree'. -/
def curveThreeUptoCard : Claim7 := { stood := { row := curveThreeUptoRow, standIns := [], harness := (true, "2703d1e94d872f6981dd941af4bcd1101cbe4ae6d6e8c6c0a417d5d3ce5da2f8"), looks := false }, kinds := [], alts := [], laidByText := true, laidKinds := [.data], laidTests := true, laidLooks := .later }
def CurveThreeUptoCardSaid : Prop := Claim7.holds Tryd.pinned (.plain (OpenSpec.upto curveThreeSpec)) curveThreeUptoCard

/-- THE SECOND FORM's CARD OF 'palfreylaw07.CurveBits'. -/
def curveBitsUptoCard : Claim7 := { stood := { row := curveBitsUptoRow, standIns := [], harness := (true, "2703d1e94d872f6981dd941af4bcd1101cbe4ae6d6e8c6c0a417d5d3ce5da2f8"), looks := false }, kinds := [], alts := [], laidByText := true, laidKinds := [.data], laidTests := true, laidLooks := .later }
def CurveBitsUptoCardSaid : Prop := Claim7.holds Tryd.pinned (.plain (OpenSpec.upto curveBitsSpec)) curveBitsUptoCard

/-- THE SECOND FORM's CARD OF 'palfreylaw07.CurveNumbers'. -/
def curveNumbersUptoCard : Claim7 := { stood := { row := curveNumbersUptoRow, standIns := [], harness := (true, "2703d1e94d872f6981dd941af4bcd1101cbe4ae6d6e8c6c0a417d5d3ce5da2f8"), looks := false }, kinds := [], alts := [], laidByText := true, laidKinds := [.data], laidTests := true, laidLooks := .later }
def CurveNumbersUptoCardSaid : Prop := Claim7.holds Tryd.pinned (.plain (OpenSpec.upto curveNumbersSpec)) curveNumbersUptoCard

/-- THE SECOND FORM's CARD OF 'palfreylaw08.KeysPairs'. -/
def keysPairsUptoCard : Claim7 := { stood := { row := keysPairsUptoRow, standIns := [], harness := (true, "2703d1e94d872f6981dd941af4bcd1101cbe4ae6d6e8c6c0a417d5d3ce5da2f8"), looks := false }, kinds := [], alts := [], laidByText := true, laidKinds := [.data, .data], laidTests := true, laidLooks := .later }
def KeysPairsUptoCardSaid : Prop := Claim7.holds Tryd.pinned (.plain (OpenSpec.upto keysPairsSpec)) keysPairsUptoCard

/-- THE SECOND FORM's CARD OF 'palfreylaw08.KeysSource'. -/
def keysSourceUptoCard : Claim7 := { stood := { row := keysSourceUptoRow, standIns := [], harness := (true, "2703d1e94d872f6981dd941af4bcd1101cbe4ae6d6e8c6c0a417d5d3ce5da2f8"), looks := false }, kinds := [], alts := [], laidByText := true, laidKinds := [.data, .data], laidTests := true, laidLooks := .later }
def KeysSourceUptoCardSaid : Prop := Claim7.holds Tryd.pinned (.plain (OpenSpec.upto keysSourceSpec)) keysSourceUptoCard

/-- THE SECOND FORM's CARD OF 'palfreylaw08.KeysCommon'. -/
def keysCommonUptoCard : Claim7 := { stood := { row := keysCommonUptoRow, standIns := [], harness := (true, "2703d1e94d872f6981dd941af4bcd1101cbe4ae6d6e8c6c0a417d5d3ce5da2f8"), looks := false }, kinds := [], alts := [], laidByText := true, laidKinds := [.data, .data], laidTests := true, laidLooks := .later }
def KeysCommonUptoCardSaid : Prop := Claim7.holds Tryd.pinned (.plain (OpenSpec.upto keysCommonSpec)) keysCommonUptoCard

/-- THE SECOND FORM's CARD OF 'palfreylaw08.KeysAgain'. -/
def keysAgainUptoCard : Claim7 := { stood := { row := keysAgainUptoRow, standIns := [], harness := (true, "2703d1e94d872f6981dd941af4bcd1101cbe4ae6d6e8c6c0a417d5d3ce5da2f8"), looks := false }, kinds := [], alts := [], laidByText := true, laidKinds := [.data, .data], laidTests := true, laidLooks := .later }
def KeysAgainUptoCardSaid : Prop := Claim7.holds Tryd.pinned (.plain (OpenSpec.upto keysAgainSpec)) keysAgainUptoCard

/-- THE SECOND FORM's CARD OF 'palfreylaw08.KeysApart'. -/
def keysApartUptoCard : Claim7 := { stood := { row := keysApartUptoRow, standIns := [], harness := (true, "2703d1e94d872f6981dd941af4bcd1101cbe4ae6d6e8c6c0a417d5d3ce5da2f8"), looks := false }, kinds := [], alts := [], laidByText := true, laidKinds := [.data, .data], laidTests := true, laidLooks := .later }
def KeysApartUptoCardSaid : Prop := Claim7.holds Tryd.pinned (.plain (OpenSpec.upto keysApartSpec)) keysApartUptoCard
end Rows
end Go.Proofs.YtadnmiedmcckkaaDoor
