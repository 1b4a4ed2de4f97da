/-
  DERIVED. GIVEN WITH THE SEED: THE CARDS: each row of YtpkledmpldnhiaaDoorRows.lean that lists a variable, with what it lists TIED to the program's text (the seventh form; the later family's looks); each row that meets fmt, with fmt's text TOLD by the authors' own Lean function (tested against real Go, not proved from fmt's source: count such statements apart). THE CARD IS WHAT COUNTS. Prove the row's statement (the work); the ties are given (YtpkledmpldnhiaaDoorTie.lean); close each card by the builder's one call (the guide's Derived/Test/ToyasCard.lean, 'card_holds'). Laid BY PROGRAM, IN A SANDBOX (cutbox-door.mjs). By AI agents, Wed Nov 11 2026. No macro, syntax, notation, axiom, sorry.
-/
import Derived.Test.YtpkledmpldnhiaaDoorRows
import GoSem.ClaimSeven
namespace Go.Proofs.YtpkledmpldnhiaaDoor
namespace Rows

/-- THE TIED CARD OF 'revetmentlaw.HoleFinds'. -/
def holeFindsCard : Claim7 := { stood := { row := holeFindsRow, standIns := [], harness := (true, "d11bd4fd71f35143df50c0ba017972bb24454ad104f1197878999e30058baeed"), looks := true }, kinds := [], alts := [], laidByText := true, laidKinds := [.data, .handle, .pinned], laidTests := true, laidLooks := .later }
def HoleFindsCardSaid : Prop := Claim7.holds Tryd.pinned (.plain (OpenSpec.ofChange holeFindsSpec)) holeFindsCard

/-- THE TIED CARD OF 'revetmentlaw.HoleTakes'. -/
def holeTakesCard : Claim7 := { stood := { row := holeTakesRow, standIns := [], harness := (true, "d11bd4fd71f35143df50c0ba017972bb24454ad104f1197878999e30058baeed"), looks := true }, kinds := [], alts := [], laidByText := true, laidKinds := [.handle], laidTests := true, laidLooks := .later }
def HoleTakesCardSaid : Prop := Claim7.holds Tryd.pinned (.plain (OpenSpec.ofChange holeTakesSpec)) holeTakesCard

/-- THE TIED CARD OF 'revetmentlaw.HoleLays'. -/
def holeLaysCard : Claim7 := { stood := { row := holeLaysRow, standIns := [], harness := (true, "d11bd4fd71f35143df50c0ba017972bb24454ad104f1197878999e30058baeed"), looks := true }, kinds := [], alts := [], laidByText := true, laidKinds := [.handle], laidTests := true, laidLooks := .later }
def HoleLaysCardSaid : Prop := Claim7.holds Tryd.pinned (.plain (OpenSpec.ofChange holeLaysSpec)) holeLaysCard

/-- THE TIED CARD OF 'revetmentkeep.HoleBack'. -/
def holeBackCard : Claim7 := { stood := { row := holeBackRow, standIns := [], harness := (true, "d11bd4fd71f35143df50c0ba017972bb24454ad104f1197878999e30058baeed"), looks := true }, kinds := [], alts := [], laidByText := true, laidKinds := [.data, .handle, .pinned], laidTests := true, laidLooks := .later }
def HoleBackCardSaid : Prop := Claim7.holds Tryd.pinned (.plain (OpenSpec.ofChange holeBackSpec)) holeBackCard

/-- THE SECOND FORM's CARD OF 'revetmentlaw.HoleFinds'. -/
def holeFindsUptoCard : Claim7 := { stood := { row := holeFindsUptoRow, standIns := [], harness := (true, "d11bd4fd71f35143df50c0ba017972bb24454ad104f1197878999e30058baeed"), looks := true }, kinds := [], alts := [], laidByText := true, laidKinds := [.data, .handle, .pinned], laidTests := true, laidLooks := .later }
def HoleFindsUptoCardSaid : Prop := Claim7.holds Tryd.pinned (.plain (OpenSpec.upto holeFindsSpec)) holeFindsUptoCard

/-- THE SECOND FORM's CARD OF 'revetmentlaw.HoleTakes'. -/
def holeTakesUptoCard : Claim7 := { stood := { row := holeTakesUptoRow, standIns := [], harness := (true, "d11bd4fd71f35143df50c0ba017972bb24454ad104f1197878999e30058baeed"), looks := true }, kinds := [], alts := [], laidByText := true, laidKinds := [.handle], laidTests := true, laidLooks := .later }
def HoleTakesUptoCardSaid : Prop := Claim7.holds Tryd.pinned (.plain (OpenSpec.upto holeTakesSpec)) holeTakesUptoCard

/-- THE SECOND FORM's CARD OF 'revetmentlaw.HoleLays'. -/
def holeLaysUptoCard : Claim7 := { stood := { row := holeLaysUptoRow, standIns := [], harness := (true, "d11bd4fd71f35143df50c0ba017972bb24454ad104f1197878999e30058baeed"), looks := true }, kinds := [], alts := [], laidByText := true, laidKinds := [.handle], laidTests := true, laidLooks := .later }
def HoleLaysUptoCardSaid : Prop := Claim7.holds Tryd.pinned (.plain (OpenSpec.upto holeLaysSpec)) holeLaysUptoCard

/-- THE SECOND FORM's CARD OF 'revetmentkeep.HoleBack'. -/
def holeBackUptoCard : Claim7 := { stood := { row := holeBackUptoRow, standIns := [], harness := (true, "d11bd4fd71f35143df50c0ba017972bb24454ad104f1197878999e30058baeed"), looks := true }, kinds := [], alts := [], laidByText := true, laidKinds := [.data, .handle, .pinned], laidTests := true, laidLooks := .later }
def HoleBackUptoCardSaid : Prop := Claim7.holds Tryd.pinned (.plain (OpenSpec.upto holeBackSpec)) holeBackUptoCard
end Rows
end Go.Proofs.YtpkledmpldnhiaaDoor
