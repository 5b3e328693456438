/-
  DERIVED. GIVEN WITH THE SEED: THE CARDS: each row of YtdecfofjcpnilaaDoorRows.lean that lists a variable, with what it lists TIED to the program's text (the seventh form; the later family's looks); each row that meets fmt, with fmt's text TOLD by the authors' own Lean function (tested against real Go, not proved from fmt's source: count such statements apart). THE CARD IS WHAT COUNTS. Prove the row's statement (the work); the ties are given (YtdecfofjcpnilaaDoorTie.lean); close each card by the builder's one call (the guide's Derived/Test/ToyasCard.lean, 'card_holds'). Laid BY PROGRAM, IN A SANDBOX (cutbox-door.mjs). By AI agents, Wed Nov 11 2026. No macro, syntax, notation, axiom, sorry.
-/
import Derived.Test.YtdecfofjcpnilaaDoorRows
import GoSem.ClaimSeven
namespace Go.Proofs.YtdecfofjcpnilaaDoor
namespace Rows

/-- THE TIED CARD OF 'palfreylaw02.BlakeSums'. -/
def blakeSumsCard : Claim7 := { stood := { row := blakeSumsRow, standIns := [], harness := (true, "c0bea38c675117c5bcabf1833a7e65ad67df226a9bf5e2731d85b52729416583"), looks := false }, kinds := [], alts := [], laidByText := true, laidKinds := [.data], laidTests := true, laidLooks := .later }
def BlakeSumsCardSaid : Prop := Claim7.holds Tryd.pinned (.plain (OpenSpec.ofChange blakeSumsSpec)) blakeSumsCard

/-- THE TIED CARD OF 'palfreylaw02.BlakeChecks'. -/
def blakeChecksCard : Claim7 := { stood := { row := blakeChecksRow, standIns := [], harness := (true, "c0bea38c675117c5bcabf1833a7e65ad67df226a9bf5e2731d85b52729416583"), looks := false }, kinds := [], alts := [], laidByText := true, laidKinds := [.data], laidTests := true, laidLooks := .later }
def BlakeChecksCardSaid : Prop := Claim7.holds Tryd.pinned (.plain (OpenSpec.ofChange blakeChecksSpec)) blakeChecksCard

/-- THE TIED CARD OF 'palfreylaw02.BlakeOwn'. -/
def blakeOwnCard : Claim7 := { stood := { row := blakeOwnRow, standIns := [], harness := (true, "c0bea38c675117c5bcabf1833a7e65ad67df226a9bf5e2731d85b52729416583"), looks := false }, kinds := [], alts := [], laidByText := true, laidKinds := [.data], laidTests := true, laidLooks := .later }
def BlakeOwnCardSaid : Prop := Claim7.holds Tryd.pinned (.plain (OpenSpec.ofChange blakeOwnSpec)) blakeOwnCard

/-- THE TIED CARD OF 'palfreylaw02.BlakeKeys'. -/
def blakeKeysCard : Claim7 := { stood := { row := blakeKeysRow, standIns := [], harness := (true, "c0bea38c675117c5bcabf1833a7e65ad67df226a9bf5e2731d85b52729416583"), looks := false }, kinds := [], alts := [], laidByText := true, laidKinds := [.data], laidTests := true, laidLooks := .later }
def BlakeKeysCardSaid : Prop := Claim7.holds Tryd.pinned (.plain (OpenSpec.ofChange blakeKeysSpec)) blakeKeysCard

/-- THE SECOND FORM's CARD OF 'palfreylaw02.BlakeSums'. -/
def blakeSumsUptoCard : Claim7 := { stood := { row := blakeSumsUptoRow, standIns := [], harness := (true, "c0bea38c675117c5bcabf1833a7e65ad67df226a9bf5e2731d85b52729416583"), looks := false }, kinds := [], alts := [], laidByText := true, laidKinds := [.data], laidTests := true, laidLooks := .later }
def BlakeSumsUptoCardSaid : Prop := Claim7.holds Tryd.pinned (.plain (OpenSpec.upto blakeSumsSpec)) blakeSumsUptoCard

/-- THE SECOND FORM's CARD OF 'palfreylaw02.BlakeChecks'. -/
def blakeChecksUptoCard : Claim7 := { stood := { row := blakeChecksUptoRow, standIns := [], harness := (true, "c0bea38c675117c5bcabf1833a7e65ad67df226a9bf5e2731d85b52729416583"), looks := false }, kinds := [], alts := [], laidByText := true, laidKinds := [.data], laidTests := true, laidLooks := .later }
def BlakeChecksUptoCardSaid : Prop := Claim7.holds Tryd.pinned (.plain (OpenSpec.upto blakeChecksSpec)) blakeChecksUptoCard

/-- THE SECOND FORM's CARD OF 'palfreylaw02.BlakeOwn'. -/
def blakeOwnUptoCard : Claim7 := { stood := { row := blakeOwnUptoRow, standIns := [], harness := (true, "c0bea38c675117c5bcabf1833a7e65ad67df226a9bf5e2731d85b52729416583"), looks := false }, kinds := [], alts := [], laidByText := true, laidKinds := [.data], laidTests := true, laidLooks := .later }
def BlakeOwnUptoCardSaid : Prop := Claim7.holds Tryd.pinned (.plain (OpenSpec.upto blakeOwnSpec)) blakeOwnUptoCard

/-- THE SECOND FORM's CARD OF 'palfreylaw02.BlakeKeys'. -/
def blakeKeysUptoCard : Claim7 := { stood := { row := blakeKeysUptoRow, standIns := [], harness := (true, "c0bea38c675117c5bcabf1833a7e65ad67df226a9bf5e2731d85b52729416583"), looks := false }, kinds := [], alts := [], laidByText := true, laidKinds := [.data], laidTests := true, laidLooks := .later }
def BlakeKeysUptoCardSaid : Prop := Claim7.holds Tryd.pinned (.plain (OpenSpec.upto blakeKeysSpec)) blakeKeysUptoCard
end Rows
end Go.Proofs.YtdecfofjcpnilaaDoor
