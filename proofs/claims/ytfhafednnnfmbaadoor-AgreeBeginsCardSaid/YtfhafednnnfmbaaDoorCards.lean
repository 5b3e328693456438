/-
  DERIVED. GIVEN WITH THE SEED: THE CARDS: each row of YtfhafednnnfmbaaDoorRows.lean that lists a variable, with what it lists TIED to the program's text (the seventh form; the later family's looks); each row that meets fmt, with fmt's text TOLD by the authors' own Lean function (tested against real Go, not proved from fmt's source: count such statements apart). THE CARD IS WHAT COUNTS. Prove the row's statement (the work); the ties are given (YtfhafednnnfmbaaDoorTie.lean); close each card by the builder's one call (the guide's Derived/Test/ToyasCard.lean, 'card_holds'). Laid BY PROGRAM, IN A SANDBOX (cutbox-door.mjs). By AI agents, Wed Nov 11 2026. No macro, syntax, notation, axiom, sorry.
-/
import Derived.Test.YtfhafednnnfmbaaDoorRows
import GoSem.ClaimSeven
namespace Go.Proofs.YtfhafednnnfmbaaDoor
namespace Rows

/-- THE TIED CARD OF 'palfreylaw09.AgreeBegins'. -/
def agreeBeginsCard : Claim7 := { stood := { row := agreeBeginsRow, standIns := [], harness := (true, "d386f9d2e9913a4ab9dab4bd5a9364832205d789e137abd378c77414cec67f5b"), looks := false }, kinds := [], alts := [], laidByText := true, laidKinds := [.data, .data], laidTests := true, laidLooks := .later }
def AgreeBeginsCardSaid : Prop := Claim7.holds Tryd.pinned (.plain (OpenSpec.ofChange agreeBeginsSpec)) agreeBeginsCard

/-- THE TIED CARD OF 'palfreylaw09.AgreeAnswers'. -/
def agreeAnswersCard : Claim7 := { stood := { row := agreeAnswersRow, standIns := [], harness := (true, "d386f9d2e9913a4ab9dab4bd5a9364832205d789e137abd378c77414cec67f5b"), looks := false }, kinds := [], alts := [], laidByText := true, laidKinds := [.data, .data], laidTests := true, laidLooks := .later }
def AgreeAnswersCardSaid : Prop := Claim7.holds Tryd.pinned (.plain (OpenSpec.ofChange agreeAnswersSpec)) agreeAnswersCard

/-- THE TIED CARD OF 'palfreylaw09.AgreeBoth'. -/
def agreeBothCard : Claim7 := { stood := { row := agreeBothRow, standIns := [], harness := (true, "d386f9d2e9913a4ab9dab4bd5a9364832205d789e137abd378c77414cec67f5b"), looks := false }, kinds := [], alts := [], laidByText := true, laidKinds := [.data, .data], laidTests := true, laidLooks := .later }
def AgreeBothCardSaid : Prop := Claim7.holds Tryd.pinned (.plain (OpenSpec.ofChange agreeBothSpec)) agreeBothCard

/-- THE TIED CARD OF 'palfreylaw09.AgreeOnce'. -/
def agreeOnceCard : Claim7 := { stood := { row := agreeOnceRow, standIns := [], harness := (true, "d386f9d2e9913a4ab9dab4bd5a9364832205d789e137abd378c77414cec67f5b"), looks := false }, kinds := [], alts := [], laidByText := true, laidKinds := [.data, .data], laidTests := true, laidLooks := .later }
def AgreeOnceCardSaid : Prop := Claim7.holds Tryd.pinned (.plain (OpenSpec.ofChange agreeOnceSpec)) agreeOnceCard

/-- THE SECOND FORM's CARD OF 'palfreylaw09.AgreeBegins'. -/
def agreeBeginsUptoCard : Claim7 := { stood := { row := agreeBeginsUptoRow, standIns := [], harness := (true, "d386f9d2e9913a4ab9dab4bd5a9364832205d789e137abd378c77414cec67f5b"), looks := false }, kinds := [], alts := [], laidByText := true, laidKinds := [.data, .data], laidTests := true, laidLooks := .later }
def AgreeBeginsUptoCardSaid : Prop := Claim7.holds Tryd.pinned (.plain (OpenSpec.upto agreeBeginsSpec)) agreeBeginsUptoCard

/-- THE SECOND FORM's CARD OF 'palfreylaw09.AgreeAnswers'. -/
def agreeAnswersUptoCard : Claim7 := { stood := { row := agreeAnswersUptoRow, standIns := [], harness := (true, "d386f9d2e9913a4ab9dab4bd5a9364832205d789e137abd378c77414cec67f5b"), looks := false }, kinds := [], alts := [], laidByText := true, laidKinds := [.data, .data], laidTests := true, laidLooks := .later }
def AgreeAnswersUptoCardSaid : Prop := Claim7.holds Tryd.pinned (.plain (OpenSpec.upto agreeAnswersSpec)) agreeAnswersUptoCard

/-- THE SECOND FORM's CARD OF 'palfreylaw09.AgreeBoth'. -/
def agreeBothUptoCard : Claim7 := { stood := { row := agreeBothUptoRow, standIns := [], harness := (true, "d386f9d2e9913a4ab9dab4bd5a9364832205d789e137abd378c77414cec67f5b"), looks := false }, kinds := [], alts := [], laidByText := true, laidKinds := [.data, .data], laidTests := true, laidLooks := .later }
def AgreeBothUptoCardSaid : Prop := Claim7.holds Tryd.pinned (.plain (OpenSpec.upto agreeBothSpec)) agreeBothUptoCard

/-- THE SECOND FORM's CARD OF 'palfreylaw09.AgreeOnce'. -/
def agreeOnceUptoCard : Claim7 := { stood := { row := agreeOnceUptoRow, standIns := [], harness := (true, "d386f9d2e9913a4ab9dab4bd5a9364832205d789e137abd378c77414cec67f5b"), looks := false }, kinds := [], alts := [], laidByText := true, laidKinds := [.data, .data], laidTests := true, laidLooks := .later }
def AgreeOnceUptoCardSaid : Prop := Claim7.holds Tryd.pinned (.plain (OpenSpec.upto agreeOnceSpec)) agreeOnceUptoCard
end Rows
end Go.Proofs.YtfhafednnnfmbaaDoor
