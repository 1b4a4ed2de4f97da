/-
  DERIVED. GIVEN WITH THE SEED: THE CARDS: each row of YtananpcpkjohcaaDoorRows.lean that lists a variable, with what it lists TIED to the program's text (the seventh form; the later family's looks); each row that meets fmt, with fmt's text TOLD by the authors' own Lean function (tested against real Go, not proved from fmt's source: count such statements apart). THE CARD IS WHAT COUNTS. Prove the row's statement (the work); the ties are given (YtananpcpkjohcaaDoorTie.lean); close each card by the builder's one call (the guide's Derived/Test/ToyasCard.lean, 'card_holds'). Laid BY PROGRAM, IN A SANDBOX (cutbox-door.mjs). By AI agents, Wed Nov 11 2026. No macro, syntax, notation, axiom, sorry.
-/
import Derived.Test.YtananpcpkjohcaaDoorRows
import GoSem.ClaimSeven
namespace Go.Proofs.YtananpcpkjohcaaDoor
namespace Rows

/-- THE TIED CARD OF 'revetmentlaw.NumberReads'. -/
def numberReadsCard : Claim7 := { stood := { row := numberReadsRow, standIns := [], harness := (true, "001b8e1372160659d9a30aa0b26ec5e60dad0d2a9c3467d8c3d3097fa778151d"), looks := true }, kinds := [], alts := [], laidByText := true, laidKinds := [.data, .handle, .pinned], laidTests := true, laidLooks := .later }
def NumberReadsCardSaid : Prop := Claim7.holds Tryd.pinned (.plain (OpenSpec.ofChange numberReadsSpec)) numberReadsCard

/-- THE TIED CARD OF 'revetmentlaw.NumberOctal'. -/
def numberOctalCard : Claim7 := { stood := { row := numberOctalRow, standIns := [], harness := (true, "001b8e1372160659d9a30aa0b26ec5e60dad0d2a9c3467d8c3d3097fa778151d"), looks := true }, kinds := [], alts := [], laidByText := true, laidKinds := [.data, .data, .data, .handle], laidTests := true, laidLooks := .later }
def NumberOctalCardSaid : Prop := Claim7.holds Tryd.pinned (.plain (OpenSpec.ofChange numberOctalSpec)) numberOctalCard

/-- THE TIED CARD OF 'revetmentlaw.NumberBinary'. -/
def numberBinaryCard : Claim7 := { stood := { row := numberBinaryRow, standIns := [], harness := (true, "001b8e1372160659d9a30aa0b26ec5e60dad0d2a9c3467d8c3d3097fa778151d"), looks := true }, kinds := [], alts := [], laidByText := true, laidKinds := [.handle], laidTests := true, laidLooks := .later }
def NumberBinaryCardSaid : Prop := Claim7.holds Tryd.pinned (.plain (OpenSpec.ofChange numberBinarySpec)) numberBinaryCard

/-- THE TIED CARD OF 'revetmentlaw.NumberWrites'. -/
def numberWritesCard : Claim7 := { stood := { row := numberWritesRow, standIns := [], harness := (true, "001b8e1372160659d9a30aa0b26ec5e60dad0d2a9c3467d8c3d3097fa778151d"), looks := true }, kinds := [], alts := [], laidByText := true, laidKinds := [.data, .data, .data, .handle], laidTests := true, laidLooks := .later }
def NumberWritesCardSaid : Prop := Claim7.holds Tryd.pinned (.plain (OpenSpec.ofChange numberWritesSpec)) numberWritesCard

/-- THE TIED CARD OF 'revetmentkeep.NumberBack'. -/
def numberBackCard : Claim7 := { stood := { row := numberBackRow, standIns := [], harness := (true, "001b8e1372160659d9a30aa0b26ec5e60dad0d2a9c3467d8c3d3097fa778151d"), looks := true }, kinds := [], alts := [], laidByText := true, laidKinds := [.data, .handle, .pinned], laidTests := true, laidLooks := .later }
def NumberBackCardSaid : Prop := Claim7.holds Tryd.pinned (.plain (OpenSpec.ofChange numberBackSpec)) numberBackCard

/-- THE TIED CARD OF 'revetmentkeep.NumberOrder'. -/
def numberOrderCard : Claim7 := { stood := { row := numberOrderRow, standIns := [], harness := (true, "001b8e1372160659d9a30aa0b26ec5e60dad0d2a9c3467d8c3d3097fa778151d"), looks := true }, kinds := [], alts := [], laidByText := true, laidKinds := [.data, .pinned], laidTests := true, laidLooks := .later }
def NumberOrderCardSaid : Prop := Claim7.holds Tryd.pinned (.plain (OpenSpec.ofChange numberOrderSpec)) numberOrderCard

/-- THE TIED CARD OF 'revetmentkeep.NumberBlind'. -/
def numberBlindCard : Claim7 := { stood := { row := numberBlindRow, standIns := [], harness := (true, "001b8e1372160659d9a30aa0b26ec5e60dad0d2a9c3467d8c3d3097fa778151d"), looks := true }, kinds := [], alts := [], laidByText := true, laidKinds := [.data, .pinned], laidTests := true, laidLooks := .later }
def NumberBlindCardSaid : Prop := Claim7.holds Tryd.pinned (.plain (OpenSpec.ofChange numberBlindSpec)) numberBlindCard

/-- THE TIED CARD OF 'revetmentkeep.NumberOne'. -/
def numberOneCard : Claim7 := { stood := { row := numberOneRow, standIns := [], harness := (true, "001b8e1372160659d9a30aa0b26ec5e60dad0d2a9c3467d8c3d3097fa778151d"), looks := true }, kinds := [], alts := [], laidByText := true, laidKinds := [.data, .pinned], laidTests := true, laidLooks := .later }
def NumberOneCardSaid : Prop := Claim7.holds Tryd.pinned (.plain (OpenSpec.ofChange numberOneSpec)) numberOneCard

/-- THE TIED CARD OF 'revetmentlaw.BlockWhole'. -/
def blockWholeCard : Claim7 := { stood := { row := blockWholeRow, standIns := [], harness := (true, "001b8e1372160659d9a30aa0b26ec5e60dad0d2a9c3467d8c3d3097fa778151d"), looks := true }, kinds := [], alts := [], laidByText := true, laidKinds := [.data, .pinned], laidTests := true, laidLooks := .later }
def BlockWholeCardSaid : Prop := Claim7.holds Tryd.pinned (.plain (OpenSpec.ofChange blockWholeSpec)) blockWholeCard

/-- THE TIED CARD OF 'revetmentlaw.BlockSums'. -/
def blockSumsCard : Claim7 := { stood := { row := blockSumsRow, standIns := [], harness := (true, "001b8e1372160659d9a30aa0b26ec5e60dad0d2a9c3467d8c3d3097fa778151d"), looks := true }, kinds := [], alts := [], laidByText := true, laidKinds := [.handle], laidTests := true, laidLooks := .later }
def BlockSumsCardSaid : Prop := Claim7.holds Tryd.pinned (.plain (OpenSpec.ofChange blockSumsSpec)) blockSumsCard

/-- THE TIED CARD OF 'revetmentlaw.BlockSeals'. -/
def blockSealsCard : Claim7 := { stood := { row := blockSealsRow, standIns := [], harness := (true, "001b8e1372160659d9a30aa0b26ec5e60dad0d2a9c3467d8c3d3097fa778151d"), looks := true }, kinds := [], alts := [], laidByText := true, laidKinds := [.data, .data, .data, .handle], laidTests := true, laidLooks := .later }
def BlockSealsCardSaid : Prop := Claim7.holds Tryd.pinned (.plain (OpenSpec.ofChange blockSealsSpec)) blockSealsCard

/-- THE TIED CARD OF 'revetmentlaw.BlockRights'. -/
def blockRightsCard : Claim7 := { stood := { row := blockRightsRow, standIns := [], harness := (true, "001b8e1372160659d9a30aa0b26ec5e60dad0d2a9c3467d8c3d3097fa778151d"), looks := true }, kinds := [], alts := [], laidByText := true, laidKinds := [.data, .pinned], laidTests := true, laidLooks := .later }
def BlockRightsCardSaid : Prop := Claim7.holds Tryd.pinned (.plain (OpenSpec.ofChange blockRightsSpec)) blockRightsCard

/-- THE TIED CARD OF 'revetmentkeep.BlockBent'. -/
def blockBentCard : Claim7 := { stood := { row := blockBentRow, standIns := [], harness := (true, "001b8e1372160659d9a30aa0b26ec5e60dad0d2a9c3467d8c3d3097fa778151d"), looks := true }, kinds := [], alts := [], laidByText := true, laidKinds := [.data, .pinned], laidTests := true, laidLooks := .later }
def BlockBentCardSaid : Prop := Claim7.holds Tryd.pinned (.plain (OpenSpec.ofChange blockBentSpec)) blockBentCard

/-- THE TIED CARD OF 'revetmentkeep.BlockSwap'. -/
def blockSwapCard : Claim7 := { stood := { row := blockSwapRow, standIns := [], harness := (true, "001b8e1372160659d9a30aa0b26ec5e60dad0d2a9c3467d8c3d3097fa778151d"), looks := true }, kinds := [], alts := [], laidByText := true, laidKinds := [.data, .pinned], laidTests := true, laidLooks := .later }
def BlockSwapCardSaid : Prop := Claim7.holds Tryd.pinned (.plain (OpenSpec.ofChange blockSwapSpec)) blockSwapCard

/-- THE TIED CARD OF 'revetmentkeep.BlockFills'. -/
def blockFillsCard : Claim7 := { stood := { row := blockFillsRow, standIns := [], harness := (true, "001b8e1372160659d9a30aa0b26ec5e60dad0d2a9c3467d8c3d3097fa778151d"), looks := true }, kinds := [], alts := [], laidByText := true, laidKinds := [.data, .pinned], laidTests := true, laidLooks := .later }
def BlockFillsCardSaid : Prop := Claim7.holds Tryd.pinned (.plain (OpenSpec.ofChange blockFillsSpec)) blockFillsCard

/-- THE TIED CARD OF 'revetmentkeep.BlockTwo'. -/
def blockTwoCard : Claim7 := { stood := { row := blockTwoRow, standIns := [], harness := (true, "001b8e1372160659d9a30aa0b26ec5e60dad0d2a9c3467d8c3d3097fa778151d"), looks := true }, kinds := [], alts := [], laidByText := true, laidKinds := [.data, .pinned], laidTests := true, laidLooks := .later }
def BlockTwoCardSaid : Prop := Claim7.holds Tryd.pinned (.plain (OpenSpec.ofChange blockTwoSpec)) blockTwoCard

/-- THE TIED CARD OF 'revetmentkeep.BlockParts'. -/
def blockPartsCard : Claim7 := { stood := { row := blockPartsRow, standIns := [], harness := (true, "001b8e1372160659d9a30aa0b26ec5e60dad0d2a9c3467d8c3d3097fa778151d"), looks := true }, kinds := [], alts := [], laidByText := true, laidKinds := [.data, .pinned], laidTests := true, laidLooks := .later }
def BlockPartsCardSaid : Prop := Claim7.holds Tryd.pinned (.plain (OpenSpec.ofChange blockPartsSpec)) blockPartsCard

/-- THE SECOND FORM's CARD OF 'revetmentlaw.NumberReads'. -/
def numberReadsUptoCard : Claim7 := { stood := { row := numberReadsUptoRow, standIns := [], harness := (true, "001b8e1372160659d9a30aa0b26ec5e60dad0d2a9c3467d8c3d3097fa778151d"), looks := true }, kinds := [], alts := [], laidByText := true, laidKinds := [.data, .handle, .pinned], laidTests := true, laidLooks := .later }
def NumberReadsUptoCardSaid : Prop := Claim7.holds Tryd.pinned (.plain (OpenSpec.upto numberReadsSpec)) numberReadsUptoCard

/-- THE SECOND FORM's CARD OF 'revetmentlaw.NumberOctal'. -/
def numberOctalUptoCard : Claim7 := { stood := { row := numberOctalUptoRow, standIns := [], harness := (true, "001b8e1372160659d9a30aa0b26ec5e60dad0d2a9c3467d8c3d3097fa778151d"), looks := true }, kinds := [], alts := [], laidByText := true, laidKinds := [.data, .data, .data, .handle], laidTests := true, laidLooks := .later }
def NumberOctalUptoCardSaid : Prop := Claim7.holds Tryd.pinned (.plain (OpenSpec.upto numberOctalSpec)) numberOctalUptoCard

/-- THE SECOND FORM's CARD OF 'revetmentlaw.NumberBinary'. -/
def numberBinaryUptoCard : Claim7 := { stood := { row := numberBinaryUptoRow, standIns := [], harness := (true, "001b8e1372160659d9a30aa0b26ec5e60dad0d2a9c3467d8c3d3097fa778151d"), looks := true }, kinds := [], alts := [], laidByText := true, laidKinds := [.handle], laidTests := true, laidLooks := .later }
def NumberBinaryUptoCardSaid : Prop := Claim7.holds Tryd.pinned (.plain (OpenSpec.upto numberBinarySpec)) numberBinaryUptoCard

/-- THE SECOND FORM's CARD OF 'revetmentlaw.NumberWrites'. -/
def numberWritesUptoCard : Claim7 := { stood := { row := numberWritesUptoRow, standIns := [], harness := (true, "001b8e1372160659d9a30aa0b26ec5e60dad0d2a9c3467d8c3d3097fa778151d"), looks := true }, kinds := [], alts := [], laidByText := true, laidKinds := [.data, .data, .data, .handle], laidTests := true, laidLooks := .later }
def NumberWritesUptoCardSaid : Prop := Claim7.holds Tryd.pinned (.plain (OpenSpec.upto numberWritesSpec)) numberWritesUptoCard

/-- THE SECOND FORM's CARD OF 'revetmentkeep.NumberBack'. -/
def numberBackUptoCard : Claim7 := { stood := { row := numberBackUptoRow, standIns := [], harness := (true, "001b8e1372160659d9a30aa0b26ec5e60dad0d2a9c3467d8c3d3097fa778151d"), looks := true }, kinds := [], alts := [], laidByText := true, laidKinds := [.data, .handle, .pinned], laidTests := true, laidLooks := .later }
def NumberBackUptoCardSaid : Prop := Claim7.holds Tryd.pinned (.plain (OpenSpec.upto numberBackSpec)) numberBackUptoCard

/-- THE SECOND FORM's CARD OF 'revetmentkeep.NumberOrder'. -/
def numberOrderUptoCard : Claim7 := { stood := { row := numberOrderUptoRow, standIns := [], harness := (true, "001b8e1372160659d9a30aa0b26ec5e60dad0d2a9c3467d8c3d3097fa778151d"), looks := true }, kinds := [], alts := [], laidByText := true, laidKinds := [.data, .pinned], laidTests := true, laidLooks := .later }
def NumberOrderUptoCardSaid : Prop := Claim7.holds Tryd.pinned (.plain (OpenSpec.upto numberOrderSpec)) numberOrderUptoCard

/-- THE SECOND FORM's CARD OF 'revetmentkeep.NumberBlind'. -/
def numberBlindUptoCard : Claim7 := { stood := { row := numberBlindUptoRow, standIns := [], harness := (true, "001b8e1372160659d9a30aa0b26ec5e60dad0d2a9c3467d8c3d3097fa778151d"), looks := true }, kinds := [], alts := [], laidByText := true, laidKinds := [.data, .pinned], laidTests := true, laidLooks := .later }
def NumberBlindUptoCardSaid : Prop := Claim7.holds Tryd.pinned (.plain (OpenSpec.upto numberBlindSpec)) numberBlindUptoCard

/-- THE SECOND FORM's CARD OF 'revetmentkeep.NumberOne'. -/
def numberOneUptoCard : Claim7 := { stood := { row := numberOneUptoRow, standIns := [], harness := (true, "001b8e1372160659d9a30aa0b26ec5e60dad0d2a9c3467d8c3d3097fa778151d"), looks := true }, kinds := [], alts := [], laidByText := true, laidKinds := [.data, .pinned], laidTests := true, laidLooks := .later }
def NumberOneUptoCardSaid : Prop := Claim7.holds Tryd.pinned (.plain (OpenSpec.upto numberOneSpec)) numberOneUptoCard

/-- THE SECOND FORM's CARD OF 'revetmentlaw.BlockWhole'. -/
def blockWholeUptoCard : Claim7 := { stood := { row := blockWholeUptoRow, standIns := [], harness := (true, "001b8e1372160659d9a30aa0b26ec5e60dad0d2a9c3467d8c3d3097fa778151d"), looks := true }, kinds := [], alts := [], laidByText := true, laidKinds := [.data, .pinned], laidTests := true, laidLooks := .later }
def BlockWholeUptoCardSaid : Prop := Claim7.holds Tryd.pinned (.plain (OpenSpec.upto blockWholeSpec)) blockWholeUptoCard

/-- THE SECOND FORM's CARD OF 'revetmentlaw.BlockSums'. -/
def blockSumsUptoCard : Claim7 := { stood := { row := blockSumsUptoRow, standIns := [], harness := (true, "001b8e1372160659d9a30aa0b26ec5e60dad0d2a9c3467d8c3d3097fa778151d"), looks := true }, kinds := [], alts := [], laidByText := true, laidKinds := [.handle], laidTests := true, laidLooks := .later }
def BlockSumsUptoCardSaid : Prop := Claim7.holds Tryd.pinned (.plain (OpenSpec.upto blockSumsSpec)) blockSumsUptoCard

/-- THE SECOND FORM's CARD OF 'revetmentlaw.BlockSeals'. -/
def blockSealsUptoCard : Claim7 := { stood := { row := blockSealsUptoRow, standIns := [], harness := (true, "001b8e1372160659d9a30aa0b26ec5e60dad0d2a9c3467d8c3d3097fa778151d"), looks := true }, kinds := [], alts := [], laidByText := true, laidKinds := [.data, .data, .data, .handle], laidTests := true, laidLooks := .later }
def BlockSealsUptoCardSaid : Prop := Claim7.holds Tryd.pinned (.plain (OpenSpec.upto blockSealsSpec)) blockSealsUptoCard

/-- THE SECOND FORM's CARD OF 'revetmentlaw.BlockRights'. -/
def blockRightsUptoCard : Claim7 := { stood := { row := blockRightsUptoRow, standIns := [], harness := (true, "001b8e1372160659d9a30aa0b26ec5e60dad0d2a9c3467d8c3d3097fa778151d"), looks := true }, kinds := [], alts := [], laidByText := true, laidKinds := [.data, .pinned], laidTests := true, laidLooks := .later }
def BlockRightsUptoCardSaid : Prop := Claim7.holds Tryd.pinned (.plain (OpenSpec.upto blockRightsSpec)) blockRightsUptoCard

/-- THE SECOND FORM's CARD OF 'revetmentkeep.BlockBent'. -/
def blockBentUptoCard : Claim7 := { stood := { row := blockBentUptoRow, standIns := [], harness := (true, "001b8e1372160659d9a30aa0b26ec5e60dad0d2a9c3467d8c3d3097fa778151d"), looks := true }, kinds := [], alts := [], laidByText := true, laidKinds := [.data, .pinned], laidTests := true, laidLooks := .later }
def BlockBentUptoCardSaid : Prop := Claim7.holds Tryd.pinned (.plain (OpenSpec.upto blockBentSpec)) blockBentUptoCard

/-- THE SECOND FORM's CARD OF 'revetmentkeep.BlockSwap'. -/
def blockSwapUptoCard : Claim7 := { stood := { row := blockSwapUptoRow, standIns := [], harness := (true, "001b8e1372160659d9a30aa0b26ec5e60dad0d2a9c3467d8c3d3097fa778151d"), looks := true }, kinds := [], alts := [], laidByText := true, laidKinds := [.data, .pinned], laidTests := true, laidLooks := .later }
def BlockSwapUptoCardSaid : Prop := Claim7.holds Tryd.pinned (.plain (OpenSpec.upto blockSwapSpec)) blockSwapUptoCard

/-- THE SECOND FORM's CARD OF 'revetmentkeep.BlockFills'. -/
def blockFillsUptoCard : Claim7 := { stood := { row := blockFillsUptoRow, standIns := [], harness := (true, "001b8e1372160659d9a30aa0b26ec5e60dad0d2a9c3467d8c3d3097fa778151d"), looks := true }, kinds := [], alts := [], laidByText := true, laidKinds := [.data, .pinned], laidTests := true, laidLooks := .later }
def BlockFillsUptoCardSaid : Prop := Claim7.holds Tryd.pinned (.plain (OpenSpec.upto blockFillsSpec)) blockFillsUptoCard

/-- THE SECOND FORM's CARD OF 'revetmentkeep.BlockTwo'. -/
def blockTwoUptoCard : Claim7 := { stood := { row := blockTwoUptoRow, standIns := [], harness := (true, "001b8e1372160659d9a30aa0b26ec5e60dad0d2a9c3467d8c3d3097fa778151d"), looks := true }, kinds := [], alts := [], laidByText := true, laidKinds := [.data, .pinned], laidTests := true, laidLooks := .later }
def BlockTwoUptoCardSaid : Prop := Claim7.holds Tryd.pinned (.plain (OpenSpec.upto blockTwoSpec)) blockTwoUptoCard

/-- THE SECOND FORM's CARD OF 'revetmentkeep.BlockParts'. -/
def blockPartsUptoCard : Claim7 := { stood := { row := blockPartsUptoRow, standIns := [], harness := (true, "001b8e1372160659d9a30aa0b26ec5e60dad0d2a9c3467d8c3d3097fa778151d"), looks := true }, kinds := [], alts := [], laidByText := true, laidKinds := [.data, .pinned], laidTests := true, laidLooks := .later }
def BlockPartsUptoCardSaid : Prop := Claim7.holds Tryd.pinned (.plain (OpenSpec.upto blockPartsSpec)) blockPartsUptoCard
end Rows
end Go.Proofs.YtananpcpkjohcaaDoor
