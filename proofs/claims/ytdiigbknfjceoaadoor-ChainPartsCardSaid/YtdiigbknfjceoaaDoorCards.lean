/-
  DERIVED. GIVEN WITH THE SEED: THE CARDS: each row of YtdiigbknfjceoaaDoorRows.lean that lists a variable, with what it lists TIED to the program's text (the seventh form; the later family's looks); each row that meets fmt, with fmt's text TOLD by the authors' own Lean function (tested against real Go, not proved from fmt's source: count such statements apart). THE CARD IS WHAT COUNTS. Prove the row's statement (the work); the ties are given (YtdiigbknfjceoaaDoorTie.lean); close each card by the builder's one call (the guide's Derived/Test/ToyasCard.lean, 'card_holds'). Laid BY PROGRAM, IN A SANDBOX (cutbox-door.mjs). By AI agents, Wed Nov 11 2026. No macro, syntax, notation, axiom, sorry.
-/
import Derived.Test.YtdiigbknfjceoaaDoorRows
import GoSem.ClaimSeven
namespace Go.Proofs.YtdiigbknfjceoaaDoor
namespace Rows

/-- THE TIED CARD OF 'palfreylaw02.BlakeSums'. -/
def blakeSumsCard : Claim7 := { stood := { row := blakeSumsRow, standIns := [], harness := (true, "6582f7a10c015a0621ef104c822efed1dc7c00d8b2397628a2a58d06b5c882c9"), looks := false }, kinds := [], alts := [], laidByText := true, laidKinds := [.data], laidTests := true, laidLooks := .later }
def BlakeSumsCardSaid : Prop := Claim7.holds Tryd.pinned (.plain (OpenSpec.ofChange blakeSumsSpec)) blakeSumsCard

/-- THE TIED CARD OF 'palfreylaw02.BlakeKeys'. -/
def blakeKeysCard : Claim7 := { stood := { row := blakeKeysRow, standIns := [], harness := (true, "6582f7a10c015a0621ef104c822efed1dc7c00d8b2397628a2a58d06b5c882c9"), looks := false }, kinds := [], alts := [], laidByText := true, laidKinds := [.data], laidTests := true, laidLooks := .later }
def BlakeKeysCardSaid : Prop := Claim7.holds Tryd.pinned (.plain (OpenSpec.ofChange blakeKeysSpec)) blakeKeysCard

/-- THE TIED CARD OF 'palfreylaw03.KdfDraws'. -/
def kdfDrawsCard : Claim7 := { stood := { row := kdfDrawsRow, standIns := [], harness := (true, "6582f7a10c015a0621ef104c822efed1dc7c00d8b2397628a2a58d06b5c882c9"), looks := false }, kinds := [], alts := [], laidByText := true, laidKinds := [.data], laidTests := true, laidLooks := .later }
def KdfDrawsCardSaid : Prop := Claim7.holds Tryd.pinned (.plain (OpenSpec.ofChange kdfDrawsSpec)) kdfDrawsCard

/-- THE TIED CARD OF 'palfreylaw03.KdfKeys'. -/
def kdfKeysCard : Claim7 := { stood := { row := kdfKeysRow, standIns := [], harness := (true, "6582f7a10c015a0621ef104c822efed1dc7c00d8b2397628a2a58d06b5c882c9"), looks := false }, kinds := [], alts := [], laidByText := true, laidKinds := [.data], laidTests := true, laidLooks := .later }
def KdfKeysCardSaid : Prop := Claim7.holds Tryd.pinned (.plain (OpenSpec.ofChange kdfKeysSpec)) kdfKeysCard

/-- THE TIED CARD OF 'palfreylaw03.KdfFewer'. -/
def kdfFewerCard : Claim7 := { stood := { row := kdfFewerRow, standIns := [], harness := (true, "6582f7a10c015a0621ef104c822efed1dc7c00d8b2397628a2a58d06b5c882c9"), looks := false }, kinds := [], alts := [], laidByText := true, laidKinds := [.data], laidTests := true, laidLooks := .later }
def KdfFewerCardSaid : Prop := Claim7.holds Tryd.pinned (.plain (OpenSpec.ofChange kdfFewerSpec)) kdfFewerCard

/-- THE TIED CARD OF 'palfreylaw03.KdfFirst'. -/
def kdfFirstCard : Claim7 := { stood := { row := kdfFirstRow, standIns := [], harness := (true, "6582f7a10c015a0621ef104c822efed1dc7c00d8b2397628a2a58d06b5c882c9"), looks := false }, kinds := [], alts := [], laidByText := true, laidKinds := [.data], laidTests := true, laidLooks := .later }
def KdfFirstCardSaid : Prop := Claim7.holds Tryd.pinned (.plain (OpenSpec.ofChange kdfFirstSpec)) kdfFirstCard

/-- THE TIED CARD OF 'palfreylaw03.KdfDrawn'. -/
def kdfDrawnCard : Claim7 := { stood := { row := kdfDrawnRow, standIns := [], harness := (true, "6582f7a10c015a0621ef104c822efed1dc7c00d8b2397628a2a58d06b5c882c9"), looks := false }, kinds := [], alts := [], laidByText := true, laidKinds := [.data], laidTests := true, laidLooks := .later }
def KdfDrawnCardSaid : Prop := Claim7.holds Tryd.pinned (.plain (OpenSpec.ofChange kdfDrawnSpec)) kdfDrawnCard

/-- THE TIED CARD OF 'palfreylaw10.ChainSteps'. -/
def chainStepsCard : Claim7 := { stood := { row := chainStepsRow, standIns := [], harness := (true, "6582f7a10c015a0621ef104c822efed1dc7c00d8b2397628a2a58d06b5c882c9"), looks := false }, kinds := [], alts := [], laidByText := true, laidKinds := [.data], laidTests := true, laidLooks := .later }
def ChainStepsCardSaid : Prop := Claim7.holds Tryd.pinned (.plain (OpenSpec.ofChange chainStepsSpec)) chainStepsCard

/-- THE TIED CARD OF 'palfreylaw10.ChainParts'. -/
def chainPartsCard : Claim7 := { stood := { row := chainPartsRow, standIns := [], harness := (true, "6582f7a10c015a0621ef104c822efed1dc7c00d8b2397628a2a58d06b5c882c9"), looks := false }, kinds := [], alts := [], laidByText := true, laidKinds := [.data], laidTests := true, laidLooks := .later }
def ChainPartsCardSaid : Prop := Claim7.holds Tryd.pinned (.plain (OpenSpec.ofChange chainPartsSpec)) chainPartsCard

/-- THE TIED CARD OF 'palfreylaw10.ChainOne'. -/
def chainOneCard : Claim7 := { stood := { row := chainOneRow, standIns := [], harness := (true, "6582f7a10c015a0621ef104c822efed1dc7c00d8b2397628a2a58d06b5c882c9"), looks := false }, kinds := [], alts := [], laidByText := true, laidKinds := [.data], laidTests := true, laidLooks := .later }
def ChainOneCardSaid : Prop := Claim7.holds Tryd.pinned (.plain (OpenSpec.ofChange chainOneSpec)) chainOneCard

/-- THE TIED CARD OF 'palfreylaw10.ChainRoots'. -/
def chainRootsCard : Claim7 := { stood := { row := chainRootsRow, standIns := [], harness := (true, "6582f7a10c015a0621ef104c822efed1dc7c00d8b2397628a2a58d06b5c882c9"), looks := false }, kinds := [], alts := [], laidByText := true, laidKinds := [.data], laidTests := true, laidLooks := .later }
def ChainRootsCardSaid : Prop := Claim7.holds Tryd.pinned (.plain (OpenSpec.ofChange chainRootsSpec)) chainRootsCard

/-- THE TIED CARD OF 'palfreylaw14.CommitOne'. -/
def commitOneCard : Claim7 := { stood := { row := commitOneRow, standIns := [], harness := (true, "6582f7a10c015a0621ef104c822efed1dc7c00d8b2397628a2a58d06b5c882c9"), looks := false }, kinds := [], alts := [], laidByText := true, laidKinds := [.data], laidTests := true, laidLooks := .later }
def CommitOneCardSaid : Prop := Claim7.holds Tryd.pinned (.plain (OpenSpec.ofChange commitOneSpec)) commitOneCard

/-- THE SECOND FORM's CARD OF 'palfreylaw02.BlakeSums'. -/
def blakeSumsUptoCard : Claim7 := { stood := { row := blakeSumsUptoRow, standIns := [], harness := (true, "6582f7a10c015a0621ef104c822efed1dc7c00d8b2397628a2a58d06b5c882c9"), looks := false }, kinds := [], alts := [], laidByText := true, laidKinds := [.data], laidTests := true, laidLooks := .later }
def BlakeSumsUptoCardSaid : Prop := Claim7.holds Tryd.pinned (.plain (OpenSpec.upto blakeSumsSpec)) blakeSumsUptoCard

/-- THE SECOND FORM's CARD OF 'palfreylaw02.BlakeKeys'. -/
def blakeKeysUptoCard : Claim7 := { stood := { row := blakeKeysUptoRow, standIns := [], harness := (true, "6582f7a10c015a0621ef104c822efed1dc7c00d8b2397628a2a58d06b5c882c9"), looks := false }, kinds := [], alts := [], laidByText := true, laidKinds := [.data], laidTests := true, laidLooks := .later }
def BlakeKeysUptoCardSaid : Prop := Claim7.holds Tryd.pinned (.plain (OpenSpec.upto blakeKeysSpec)) blakeKeysUptoCard

/-- THE SECOND FORM's CARD OF 'palfreylaw03.KdfDraws'. -/
def kdfDrawsUptoCard : Claim7 := { stood := { row := kdfDrawsUptoRow, standIns := [], harness := (true, "6582f7a10c015a0621ef104c822efed1dc7c00d8b2397628a2a58d06b5c882c9"), looks := false }, kinds := [], alts := [], laidByText := true, laidKinds := [.data], laidTests := true, laidLooks := .later }
def KdfDrawsUptoCardSaid : Prop := Claim7.holds Tryd.pinned (.plain (OpenSpec.upto kdfDrawsSpec)) kdfDrawsUptoCard

/-- THE SECOND FORM's CARD OF 'palfreylaw03.KdfKeys'. -/
def kdfKeysUptoCard : Claim7 := { stood := { row := kdfKeysUptoRow, standIns := [], harness := (true, "6582f7a10c015a0621ef104c822efed1dc7c00d8b2397628a2a58d06b5c882c9"), looks := false }, kinds := [], alts := [], laidByText := true, laidKinds := [.data], laidTests := true, laidLooks := .later }
def KdfKeysUptoCardSaid : Prop := Claim7.holds Tryd.pinned (.plain (OpenSpec.upto kdfKeysSpec)) kdfKeysUptoCard

/-- THE SECOND FORM's CARD OF 'palfreylaw03.KdfFewer'. -/
def kdfFewerUptoCard : Claim7 := { stood := { row := kdfFewerUptoRow, standIns := [], harness := (true, "6582f7a10c015a0621ef104c822efed1dc7c00d8b2397628a2a58d06b5c882c9"), looks := false }, kinds := [], alts := [], laidByText := true, laidKinds := [.data], laidTests := true, laidLooks := .later }
def KdfFewerUptoCardSaid : Prop := Claim7.holds Tryd.pinned (.plain (OpenSpec.upto kdfFewerSpec)) kdfFewerUptoCard

/-- THE SECOND FORM's CARD OF 'palfreylaw03.KdfFirst'. -/
def kdfFirstUptoCard : Claim7 := { stood := { row := kdfFirstUptoRow, standIns := [], harness := (true, "6582f7a10c015a0621ef104c822efed1dc7c00d8b2397628a2a58d06b5c882c9"), looks := false }, kinds := [], alts := [], laidByText := true, laidKinds := [.data], laidTests := true, laidLooks := .later }
def KdfFirstUptoCardSaid : Prop := Claim7.holds Tryd.pinned (.plain (OpenSpec.upto kdfFirstSpec)) kdfFirstUptoCard

/-- THE SECOND FORM's CARD OF 'palfreylaw03.KdfDrawn'. -/
def kdfDrawnUptoCard : Claim7 := { stood := { row := kdfDrawnUptoRow, standIns := [], harness := (true, "6582f7a10c015a0621ef104c822efed1dc7c00d8b2397628a2a58d06b5c882c9"), looks := false }, kinds := [], alts := [], laidByText := true, laidKinds := [.data], laidTests := true, laidLooks := .later }
def KdfDrawnUptoCardSaid : Prop := Claim7.holds Tryd.pinned (.plain (OpenSpec.upto kdfDrawnSpec)) kdfDrawnUptoCard

/-- THE SECOND FORM's CARD OF 'palfreylaw10.ChainSteps'. -/
def chainStepsUptoCard : Claim7 := { stood := { row := chainStepsUptoRow, standIns := [], harness := (true, "6582f7a10c015a0621ef104c822efed1dc7c00d8b2397628a2a58d06b5c882c9"), looks := false }, kinds := [], alts := [], laidByText := true, laidKinds := [.data], laidTests := true, laidLooks := .later }
def ChainStepsUptoCardSaid : Prop := Claim7.holds Tryd.pinned (.plain (OpenSpec.upto chainStepsSpec)) chainStepsUptoCard

/-- THE SECOND FORM's CARD OF 'palfreylaw10.ChainParts'. -/
def chainPartsUptoCard : Claim7 := { stood := { row := chainPartsUptoRow, standIns := [], harness := (true, "6582f7a10c015a0621ef104c822efed1dc7c00d8b2397628a2a58d06b5c882c9"), looks := false }, kinds := [], alts := [], laidByText := true, laidKinds := [.data], laidTests := true, laidLooks := .later }
def ChainPartsUptoCardSaid : Prop := Claim7.holds Tryd.pinned (.plain (OpenSpec.upto chainPartsSpec)) chainPartsUptoCard

/-- THE SECOND FORM's CARD OF 'palfreylaw10.ChainOne'. -/
def chainOneUptoCard : Claim7 := { stood := { row := chainOneUptoRow, standIns := [], harness := (true, "6582f7a10c015a0621ef104c822efed1dc7c00d8b2397628a2a58d06b5c882c9"), looks := false }, kinds := [], alts := [], laidByText := true, laidKinds := [.data], laidTests := true, laidLooks := .later }
def ChainOneUptoCardSaid : Prop := Claim7.holds Tryd.pinned (.plain (OpenSpec.upto chainOneSpec)) chainOneUptoCard

/-- THE SECOND FORM's CARD OF 'palfreylaw10.ChainRoots'. -/
def chainRootsUptoCard : Claim7 := { stood := { row := chainRootsUptoRow, standIns := [], harness := (true, "6582f7a10c015a0621ef104c822efed1dc7c00d8b2397628a2a58d06b5c882c9"), looks := false }, kinds := [], alts := [], laidByText := true, laidKinds := [.data], laidTests := true, laidLooks := .later }
def ChainRootsUptoCardSaid : Prop := Claim7.holds Tryd.pinned (.plain (OpenSpec.upto chainRootsSpec)) chainRootsUptoCard

/-- THE SECOND FORM's CARD OF 'palfreylaw14.CommitOne'. -/
def commitOneUptoCard : Claim7 := { stood := { row := commitOneUptoRow, standIns := [], harness := (true, "6582f7a10c015a0621ef104c822efed1dc7c00d8b2397628a2a58d06b5c882c9"), looks := false }, kinds := [], alts := [], laidByText := true, laidKinds := [.data], laidTests := true, laidLooks := .later }
def CommitOneUptoCardSaid : Prop := Claim7.holds Tryd.pinned (.plain (OpenSpec.upto commitOneSpec)) commitOneUptoCard
end Rows
end Go.Proofs.YtdiigbknfjceoaaDoor
