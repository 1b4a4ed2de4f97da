/-
  DERIVED. GIVEN WITH THE SEED: THE CARDS: each row of YtalafhfpmkacgaaDoorRows.lean that lists a variable, with what it lists TIED to the program's text (the seventh form; the later family's looks); each row that meets fmt, with fmt's text TOLD by the authors' own Lean function (tested against real Go, not proved from fmt's source: count such statements apart). THE CARD IS WHAT COUNTS. Prove the row's statement (the work); the ties are given (YtalafhfpmkacgaaDoorTie.lean); close each card by the builder's one call (the guide's Derived/Test/ToyasCard.lean, 'card_holds'). Laid BY PROGRAM, IN A SANDBOX (cutbox-door.mjs). By AI agents, Wed Nov 11 2026. No macro, syntax, notation, axiom, sorry.
-/
import Derived.Test.YtalafhfpmkacgaaDoorRows
import GoSem.ClaimSeven
namespace Go.Proofs.YtalafhfpmkacgaaDoor
namespace Rows

/-- THE TIED CARD OF 'revetmentlaw.ModeChanges'. -/
def modeChangesCard : Claim7 := { stood := { row := modeChangesRow, standIns := [], harness := (true, "ff330b1e100d3036e57f7b0eb43d8175ff544eeb58885e1731ddfa583f800c42"), looks := true }, kinds := [], alts := [], laidByText := true, laidKinds := [.data, .data, .data, .data, .handle, .sentinel, .sentinel, .pinned], laidTests := true, laidLooks := .later }
def ModeChangesCardSaid : Prop := Claim7.holds Tryd.pinned (.plain (OpenSpec.ofChange modeChangesSpec)) modeChangesCard

/-- THE TIED CARD OF 'revetmentlaw.ModeTexts'. -/
def modeTextsCard : Claim7 := { stood := { row := modeTextsRow, standIns := [], harness := (true, "ff330b1e100d3036e57f7b0eb43d8175ff544eeb58885e1731ddfa583f800c42"), looks := true }, kinds := [], alts := [], laidByText := true, laidKinds := [.data, .pinned, .pinned], laidTests := true, laidLooks := .later }
def ModeTextsCardSaid : Prop := Claim7.holds Tryd.pinned (.plain (OpenSpec.ofChange modeTextsSpec)) modeTextsCard

/-- THE TIED CARD OF 'revetmentlaw.ModeReads'. -/
def modeReadsCard : Claim7 := { stood := { row := modeReadsRow, standIns := [], harness := (true, "ff330b1e100d3036e57f7b0eb43d8175ff544eeb58885e1731ddfa583f800c42"), looks := true }, kinds := [], alts := [], laidByText := true, laidKinds := [.data, .handle, .pinned, .pinned], laidTests := true, laidLooks := .later }
def ModeReadsCardSaid : Prop := Claim7.holds Tryd.pinned (.plain (OpenSpec.ofChange modeReadsSpec)) modeReadsCard

/-- THE TIED CARD OF 'revetmentkeep.ModeBack'. -/
def modeBackCard : Claim7 := { stood := { row := modeBackRow, standIns := [], harness := (true, "ff330b1e100d3036e57f7b0eb43d8175ff544eeb58885e1731ddfa583f800c42"), looks := true }, kinds := [], alts := [], laidByText := true, laidKinds := [.data, .data, .data, .data, .sentinel, .sentinel, .pinned], laidTests := true, laidLooks := .later }
def ModeBackCardSaid : Prop := Claim7.holds Tryd.pinned (.plain (OpenSpec.ofChange modeBackSpec)) modeBackCard

/-- THE TIED CARD OF 'revetmentkeep.ModeTwice'. -/
def modeTwiceCard : Claim7 := { stood := { row := modeTwiceRow, standIns := [], harness := (true, "ff330b1e100d3036e57f7b0eb43d8175ff544eeb58885e1731ddfa583f800c42"), looks := true }, kinds := [], alts := [], laidByText := true, laidKinds := [.data, .data, .data, .data, .handle, .sentinel, .sentinel, .pinned], laidTests := true, laidLooks := .later }
def ModeTwiceCardSaid : Prop := Claim7.holds Tryd.pinned (.plain (OpenSpec.ofChange modeTwiceSpec)) modeTwiceCard

/-- THE TIED CARD OF 'revetmentkeep.ModeTurns'. -/
def modeTurnsCard : Claim7 := { stood := { row := modeTurnsRow, standIns := [], harness := (true, "ff330b1e100d3036e57f7b0eb43d8175ff544eeb58885e1731ddfa583f800c42"), looks := true }, kinds := [], alts := [], laidByText := true, laidKinds := [.data, .data, .data, .data, .sentinel, .sentinel, .pinned], laidTests := true, laidLooks := .later }
def ModeTurnsCardSaid : Prop := Claim7.holds Tryd.pinned (.plain (OpenSpec.ofChange modeTurnsSpec)) modeTurnsCard

/-- THE TIED CARD OF 'revetmentkeep.ModeSets'. -/
def modeSetsCard : Claim7 := { stood := { row := modeSetsRow, standIns := [], harness := (true, "ff330b1e100d3036e57f7b0eb43d8175ff544eeb58885e1731ddfa583f800c42"), looks := true }, kinds := [], alts := [], laidByText := true, laidKinds := [.data, .data, .data, .data, .sentinel, .sentinel, .pinned], laidTests := true, laidLooks := .later }
def ModeSetsCardSaid : Prop := Claim7.holds Tryd.pinned (.plain (OpenSpec.ofChange modeSetsSpec)) modeSetsCard

/-- THE SECOND FORM's CARD OF 'revetmentlaw.ModeChanges'. -/
def modeChangesUptoCard : Claim7 := { stood := { row := modeChangesUptoRow, standIns := [], harness := (true, "ff330b1e100d3036e57f7b0eb43d8175ff544eeb58885e1731ddfa583f800c42"), looks := true }, kinds := [], alts := [], laidByText := true, laidKinds := [.data, .data, .data, .data, .handle, .sentinel, .sentinel, .pinned], laidTests := true, laidLooks := .later }
def ModeChangesUptoCardSaid : Prop := Claim7.holds Tryd.pinned (.plain (OpenSpec.upto modeChangesSpec)) modeChangesUptoCard

/-- THE SECOND FORM's CARD OF 'revetmentlaw.ModeTexts'. -/
def modeTextsUptoCard : Claim7 := { stood := { row := modeTextsUptoRow, standIns := [], harness := (true, "ff330b1e100d3036e57f7b0eb43d8175ff544eeb58885e1731ddfa583f800c42"), looks := true }, kinds := [], alts := [], laidByText := true, laidKinds := [.data, .pinned, .pinned], laidTests := true, laidLooks := .later }
def ModeTextsUptoCardSaid : Prop := Claim7.holds Tryd.pinned (.plain (OpenSpec.upto modeTextsSpec)) modeTextsUptoCard

/-- THE SECOND FORM's CARD OF 'revetmentlaw.ModeReads'. -/
def modeReadsUptoCard : Claim7 := { stood := { row := modeReadsUptoRow, standIns := [], harness := (true, "ff330b1e100d3036e57f7b0eb43d8175ff544eeb58885e1731ddfa583f800c42"), looks := true }, kinds := [], alts := [], laidByText := true, laidKinds := [.data, .handle, .pinned, .pinned], laidTests := true, laidLooks := .later }
def ModeReadsUptoCardSaid : Prop := Claim7.holds Tryd.pinned (.plain (OpenSpec.upto modeReadsSpec)) modeReadsUptoCard

/-- THE SECOND FORM's CARD OF 'revetmentkeep.ModeBack'. -/
def modeBackUptoCard : Claim7 := { stood := { row := modeBackUptoRow, standIns := [], harness := (true, "ff330b1e100d3036e57f7b0eb43d8175ff544eeb58885e1731ddfa583f800c42"), looks := true }, kinds := [], alts := [], laidByText := true, laidKinds := [.data, .data, .data, .data, .sentinel, .sentinel, .pinned], laidTests := true, laidLooks := .later }
def ModeBackUptoCardSaid : Prop := Claim7.holds Tryd.pinned (.plain (OpenSpec.upto modeBackSpec)) modeBackUptoCard

/-- THE SECOND FORM's CARD OF 'revetmentkeep.ModeTwice'. -/
def modeTwiceUptoCard : Claim7 := { stood := { row := modeTwiceUptoRow, standIns := [], harness := (true, "ff330b1e100d3036e57f7b0eb43d8175ff544eeb58885e1731ddfa583f800c42"), looks := true }, kinds := [], alts := [], laidByText := true, laidKinds := [.data, .data, .data, .data, .handle, .sentinel, .sentinel, .pinned], laidTests := true, laidLooks := .later }
def ModeTwiceUptoCardSaid : Prop := Claim7.holds Tryd.pinned (.plain (OpenSpec.upto modeTwiceSpec)) modeTwiceUptoCard

/-- THE SECOND FORM's CARD OF 'revetmentkeep.ModeTurns'. -/
def modeTurnsUptoCard : Claim7 := { stood := { row := modeTurnsUptoRow, standIns := [], harness := (true, "ff330b1e100d3036e57f7b0eb43d8175ff544eeb58885e1731ddfa583f800c42"), looks := true }, kinds := [], alts := [], laidByText := true, laidKinds := [.data, .data, .data, .data, .sentinel, .sentinel, .pinned], laidTests := true, laidLooks := .later }
def ModeTurnsUptoCardSaid : Prop := Claim7.holds Tryd.pinned (.plain (OpenSpec.upto modeTurnsSpec)) modeTurnsUptoCard

/-- THE SECOND FORM's CARD OF 'revetmentkeep.ModeSets'. -/
def modeSetsUptoCard : Claim7 := { stood := { row := modeSetsUptoRow, standIns := [], harness := (true, "ff330b1e100d3036e57f7b0eb43d8175ff544eeb58885e1731ddfa583f800c42"), looks := true }, kinds := [], alts := [], laidByText := true, laidKinds := [.data, .data, .data, .data, .sentinel, .sentinel, .pinned], laidTests := true, laidLooks := .later }
def ModeSetsUptoCardSaid : Prop := Claim7.holds Tryd.pinned (.plain (OpenSpec.upto modeSetsSpec)) modeSetsUptoCard
end Rows
end Go.Proofs.YtalafhfpmkacgaaDoor
