/-
  DERIVED. GIVEN WITH THE SEED: THE CARDS: each row of YthdjojindijmnaaDoorRows.lean that lists a variable, with what it lists TIED to the program's text (the seventh form; the later family's looks); each row that meets fmt, with fmt's text TOLD by the authors' own Lean function (tested against real Go, not proved from fmt's source: count such statements apart). THE CARD IS WHAT COUNTS. Prove the row's statement (the work); the ties are given (YthdjojindijmnaaDoorTie.lean); close each card by the builder's one call (the guide's Derived/Test/ToyasCard.lean, 'card_holds'). Laid BY PROGRAM, IN A SANDBOX (cutbox-door.mjs). By AI agents, Wed Nov 11 2026. No macro, syntax, notation, axiom, sorry.
-/
import Derived.Test.YthdjojindijmnaaDoorRows
import GoSem.ClaimSeven
namespace Go.Proofs.YthdjojindijmnaaDoor
namespace Rows

/-- THE TIED CARD OF 'palfreylaw14.CommitOne'. -/
def commitOneCard : Claim7 := { stood := { row := commitOneRow, standIns := [], harness := (true, "632ce934c00f33db880b8f8b68c962b8901d5622ff503d0732a10136a05fad64"), looks := false }, kinds := [], alts := [], laidByText := true, laidKinds := [.data], laidTests := true, laidLooks := .later }
def CommitOneCardSaid : Prop := Claim7.holds Tryd.pinned (.plain (OpenSpec.ofChange commitOneSpec)) commitOneCard

/-- THE TIED CARD OF 'palfreylaw14.CommitMakes'. -/
def commitMakesCard : Claim7 := { stood := { row := commitMakesRow, standIns := [], harness := (true, "632ce934c00f33db880b8f8b68c962b8901d5622ff503d0732a10136a05fad64"), looks := false }, kinds := [], alts := [], laidByText := true, laidKinds := [.data], laidTests := true, laidLooks := .later }
def CommitMakesCardSaid : Prop := Claim7.holds Tryd.pinned (.plain (OpenSpec.ofChange commitMakesSpec)) commitMakesCard

/-- THE TIED CARD OF 'palfreylaw14.CommitRows'. -/
def commitRowsCard : Claim7 := { stood := { row := commitRowsRow, standIns := [], harness := (true, "632ce934c00f33db880b8f8b68c962b8901d5622ff503d0732a10136a05fad64"), looks := false }, kinds := [], alts := [], laidByText := true, laidKinds := [.data], laidTests := true, laidLooks := .later }
def CommitRowsCardSaid : Prop := Claim7.holds Tryd.pinned (.plain (OpenSpec.ofChange commitRowsSpec)) commitRowsCard

/-- THE TIED CARD OF 'palfreylaw14.CommitPacks'. -/
def commitPacksCard : Claim7 := { stood := { row := commitPacksRow, standIns := [], harness := (true, "632ce934c00f33db880b8f8b68c962b8901d5622ff503d0732a10136a05fad64"), looks := false }, kinds := [], alts := [], laidByText := true, laidKinds := [.data], laidTests := true, laidLooks := .later }
def CommitPacksCardSaid : Prop := Claim7.holds Tryd.pinned (.plain (OpenSpec.ofChange commitPacksSpec)) commitPacksCard

/-- THE TIED CARD OF 'palfreylaw05.SealBack'. -/
def sealBackCard : Claim7 := { stood := { row := sealBackRow, standIns := [], harness := (true, "632ce934c00f33db880b8f8b68c962b8901d5622ff503d0732a10136a05fad64"), looks := false }, kinds := [], alts := [], laidByText := true, laidKinds := [.data], laidTests := true, laidLooks := .later }
def SealBackCardSaid : Prop := Claim7.holds Tryd.pinned (.plain (OpenSpec.ofChange sealBackSpec)) sealBackCard

/-- THE TIED CARD OF 'palfreylaw05.SealOne'. -/
def sealOneCard : Claim7 := { stood := { row := sealOneRow, standIns := [], harness := (true, "632ce934c00f33db880b8f8b68c962b8901d5622ff503d0732a10136a05fad64"), looks := false }, kinds := [], alts := [], laidByText := true, laidKinds := [.data], laidTests := true, laidLooks := .later }
def SealOneCardSaid : Prop := Claim7.holds Tryd.pinned (.plain (OpenSpec.ofChange sealOneSpec)) sealOneCard

/-- THE TIED CARD OF 'palfreylaw05.SealLong'. -/
def sealLongCard : Claim7 := { stood := { row := sealLongRow, standIns := [], harness := (true, "632ce934c00f33db880b8f8b68c962b8901d5622ff503d0732a10136a05fad64"), looks := false }, kinds := [], alts := [], laidByText := true, laidKinds := [.data], laidTests := true, laidLooks := .later }
def SealLongCardSaid : Prop := Claim7.holds Tryd.pinned (.plain (OpenSpec.ofChange sealLongSpec)) sealLongCard

/-- THE TIED CARD OF 'palfreylaw05.SealCloses'. -/
def sealClosesCard : Claim7 := { stood := { row := sealClosesRow, standIns := [], harness := (true, "632ce934c00f33db880b8f8b68c962b8901d5622ff503d0732a10136a05fad64"), looks := false }, kinds := [], alts := [], laidByText := true, laidKinds := [.data], laidTests := true, laidLooks := .later }
def SealClosesCardSaid : Prop := Claim7.holds Tryd.pinned (.plain (OpenSpec.ofChange sealClosesSpec)) sealClosesCard

/-- THE TIED CARD OF 'palfreylaw05.SealOpens'. -/
def sealOpensCard : Claim7 := { stood := { row := sealOpensRow, standIns := [], harness := (true, "632ce934c00f33db880b8f8b68c962b8901d5622ff503d0732a10136a05fad64"), looks := false }, kinds := [], alts := [], laidByText := true, laidKinds := [.data], laidTests := true, laidLooks := .later }
def SealOpensCardSaid : Prop := Claim7.holds Tryd.pinned (.plain (OpenSpec.ofChange sealOpensSpec)) sealOpensCard

/-- THE TIED CARD OF 'palfreylaw10.ChainParts'. -/
def chainPartsCard : Claim7 := { stood := { row := chainPartsRow, standIns := [], harness := (true, "632ce934c00f33db880b8f8b68c962b8901d5622ff503d0732a10136a05fad64"), looks := false }, kinds := [], alts := [], laidByText := true, laidKinds := [.data], laidTests := true, laidLooks := .later }
def ChainPartsCardSaid : Prop := Claim7.holds Tryd.pinned (.plain (OpenSpec.ofChange chainPartsSpec)) chainPartsCard

/-- THE SECOND FORM's CARD OF 'palfreylaw14.CommitOne'. -/
def commitOneUptoCard : Claim7 := { stood := { row := commitOneUptoRow, standIns := [], harness := (true, "632ce934c00f33db880b8f8b68c962b8901d5622ff503d0732a10136a05fad64"), looks := false }, kinds := [], alts := [], laidByText := true, laidKinds := [.data], laidTests := true, laidLooks := .later }
def CommitOneUptoCardSaid : Prop := Claim7.holds Tryd.pinned (.plain (OpenSpec.upto commitOneSpec)) commitOneUptoCard

/-- THE SECOND FORM's CARD OF 'palfreylaw14.CommitMakes'. -/
def commitMakesUptoCard : Claim7 := { stood := { row := commitMakesUptoRow, standIns := [], harness := (true, "632ce934c00f33db880b8f8b68c962b8901d5622ff503d0732a10136a05fad64"), looks := false }, kinds := [], alts := [], laidByText := true, laidKinds := [.data], laidTests := true, laidLooks := .later }
def CommitMakesUptoCardSaid : Prop := Claim7.holds Tryd.pinned (.plain (OpenSpec.upto commitMakesSpec)) commitMakesUptoCard

/-- THE SECOND FORM's CARD OF 'palfreylaw14.CommitRows'. -/
def commitRowsUptoCard : Claim7 := { stood := { row := commitRowsUptoRow, standIns := [], harness := (true, "632ce934c00f33db880b8f8b68c962b8901d5622ff503d0732a10136a05fad64"), looks := false }, kinds := [], alts := [], laidByText := true, laidKinds := [.data], laidTests := true, laidLooks := .later }
def CommitRowsUptoCardSaid : Prop := Claim7.holds Tryd.pinned (.plain (OpenSpec.upto commitRowsSpec)) commitRowsUptoCard

/-- THE SECOND FORM's CARD OF 'palfreylaw14.CommitPacks'. -/
def commitPacksUptoCard : Claim7 := { stood := { row := commitPacksUptoRow, standIns := [], harness := (true, "632ce934c00f33db880b8f8b68c962b8901d5622ff503d0732a10136a05fad64"), looks := false }, kinds := [], alts := [], laidByText := true, laidKinds := [.data], laidTests := true, laidLooks := .later }
def CommitPacksUptoCardSaid : Prop := Claim7.holds Tryd.pinned (.plain (OpenSpec.upto commitPacksSpec)) commitPacksUptoCard

/-- THE SECOND FORM's CARD OF 'palfreylaw05.SealBack'. -/
def sealBackUptoCard : Claim7 := { stood := { row := sealBackUptoRow, standIns := [], harness := (true, "632ce934c00f33db880b8f8b68c962b8901d5622ff503d0732a10136a05fad64"), looks := false }, kinds := [], alts := [], laidByText := true, laidKinds := [.data], laidTests := true, laidLooks := .later }
def SealBackUptoCardSaid : Prop := Claim7.holds Tryd.pinned (.plain (OpenSpec.upto sealBackSpec)) sealBackUptoCard

/-- THE SECOND FORM's CARD OF 'palfreylaw05.SealOne'. -/
def sealOneUptoCard : Claim7 := { stood := { row := sealOneUptoRow, standIns := [], harness := (true, "632ce934c00f33db880b8f8b68c962b8901d5622ff503d0732a10136a05fad64"), looks := false }, kinds := [], alts := [], laidByText := true, laidKinds := [.data], laidTests := true, laidLooks := .later }
def SealOneUptoCardSaid : Prop := Claim7.holds Tryd.pinned (.plain (OpenSpec.upto sealOneSpec)) sealOneUptoCard

/-- THE SECOND FORM's CARD OF 'palfreylaw05.SealLong'. -/
def sealLongUptoCard : Claim7 := { stood := { row := sealLongUptoRow, standIns := [], harness := (true, "632ce934c00f33db880b8f8b68c962b8901d5622ff503d0732a10136a05fad64"), looks := false }, kinds := [], alts := [], laidByText := true, laidKinds := [.data], laidTests := true, laidLooks := .later }
def SealLongUptoCardSaid : Prop := Claim7.holds Tryd.pinned (.plain (OpenSpec.upto sealLongSpec)) sealLongUptoCard

/-- THE SECOND FORM's CARD OF 'palfreylaw05.SealCloses'. -/
def sealClosesUptoCard : Claim7 := { stood := { row := sealClosesUptoRow, standIns := [], harness := (true, "632ce934c00f33db880b8f8b68c962b8901d5622ff503d0732a10136a05fad64"), looks := false }, kinds := [], alts := [], laidByText := true, laidKinds := [.data], laidTests := true, laidLooks := .later }
def SealClosesUptoCardSaid : Prop := Claim7.holds Tryd.pinned (.plain (OpenSpec.upto sealClosesSpec)) sealClosesUptoCard

/-- THE SECOND FORM's CARD OF 'palfreylaw05.SealOpens'. -/
def sealOpensUptoCard : Claim7 := { stood := { row := sealOpensUptoRow, standIns := [], harness := (true, "632ce934c00f33db880b8f8b68c962b8901d5622ff503d0732a10136a05fad64"), looks := false }, kinds := [], alts := [], laidByText := true, laidKinds := [.data], laidTests := true, laidLooks := .later }
def SealOpensUptoCardSaid : Prop := Claim7.holds Tryd.pinned (.plain (OpenSpec.upto sealOpensSpec)) sealOpensUptoCard

/-- THE SECOND FORM's CARD OF 'palfreylaw10.ChainParts'. -/
def chainPartsUptoCard : Claim7 := { stood := { row := chainPartsUptoRow, standIns := [], harness := (true, "632ce934c00f33db880b8f8b68c962b8901d5622ff503d0732a10136a05fad64"), looks := false }, kinds := [], alts := [], laidByText := true, laidKinds := [.data], laidTests := true, laidLooks := .later }
def ChainPartsUptoCardSaid : Prop := Claim7.holds Tryd.pinned (.plain (OpenSpec.upto chainPartsSpec)) chainPartsUptoCard
end Rows
end Go.Proofs.YthdjojindijmnaaDoor
