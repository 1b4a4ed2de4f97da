/-
  DERIVED. GIVEN WITH THE SEED: THE CARDS: each row of YtapfkjdkpcgoiaaDoorRows.lean that lists a variable, with what it lists TIED to the program's text (the seventh form; the later family's looks); each row that meets fmt, with fmt's text TOLD by the authors' own Lean function (tested against real Go, not proved from fmt's source: count such statements apart). THE CARD IS WHAT COUNTS. Prove the row's statement (the work); the ties are given (YtapfkjdkpcgoiaaDoorTie.lean); close each card by the builder's one call (the guide's Derived/Test/ToyasCard.lean, 'card_holds'). Laid BY PROGRAM, IN A SANDBOX (cutbox-door.mjs). By AI agents, Wed Nov 11 2026. No macro, syntax, notation, axiom, sorry.
-/
import Derived.Test.YtapfkjdkpcgoiaaDoorRows
import GoSem.ClaimSeven
namespace Go.Proofs.YtapfkjdkpcgoiaaDoor
namespace Rows

/-- THE TIED CARD OF 'revetmentlaw.HeadWrites'. -/
def headWritesCard : Claim7 := { stood := { row := headWritesRow, standIns := [], harness := (true, "0906fc6413a742b41d2578c6567c13d64f5abda15336567cc02cb4157f5b57c5"), looks := true }, kinds := [], alts := [], laidByText := true, laidKinds := [.data, .data, .data, .handle], laidTests := true, laidLooks := .later }
def HeadWritesCardSaid : Prop := Claim7.holds Tryd.pinned (.plain (OpenSpec.ofChange headWritesSpec)) headWritesCard

/-- THE TIED CARD OF 'revetmentkeep.HeadBack'. -/
def headBackCard : Claim7 := { stood := { row := headBackRow, standIns := [], harness := (true, "0906fc6413a742b41d2578c6567c13d64f5abda15336567cc02cb4157f5b57c5"), looks := true }, kinds := [], alts := [], laidByText := true, laidKinds := [.data, .pinned], laidTests := true, laidLooks := .later }
def HeadBackCardSaid : Prop := Claim7.holds Tryd.pinned (.plain (OpenSpec.ofChange headBackSpec)) headBackCard

/-- THE TIED CARD OF 'revetmentkeep.HeadBent'. -/
def headBentCard : Claim7 := { stood := { row := headBentRow, standIns := [], harness := (true, "0906fc6413a742b41d2578c6567c13d64f5abda15336567cc02cb4157f5b57c5"), looks := true }, kinds := [], alts := [], laidByText := true, laidKinds := [.data, .handle, .pinned], laidTests := true, laidLooks := .later }
def HeadBentCardSaid : Prop := Claim7.holds Tryd.pinned (.plain (OpenSpec.ofChange headBentSpec)) headBentCard

/-- THE TIED CARD OF 'revetmentkeep.HeadNames'. -/
def headNamesCard : Claim7 := { stood := { row := headNamesRow, standIns := [], harness := (true, "0906fc6413a742b41d2578c6567c13d64f5abda15336567cc02cb4157f5b57c5"), looks := true }, kinds := [], alts := [], laidByText := true, laidKinds := [.data, .pinned], laidTests := true, laidLooks := .later }
def HeadNamesCardSaid : Prop := Claim7.holds Tryd.pinned (.plain (OpenSpec.ofChange headNamesSpec)) headNamesCard

/-- THE TIED CARD OF 'revetmentkeep.HeadOne'. -/
def headOneCard : Claim7 := { stood := { row := headOneRow, standIns := [], harness := (true, "0906fc6413a742b41d2578c6567c13d64f5abda15336567cc02cb4157f5b57c5"), looks := true }, kinds := [], alts := [], laidByText := true, laidKinds := [.data, .pinned], laidTests := true, laidLooks := .later }
def HeadOneCardSaid : Prop := Claim7.holds Tryd.pinned (.plain (OpenSpec.ofChange headOneSpec)) headOneCard

/-- THE SECOND FORM's CARD OF 'revetmentlaw.HeadWrites'. -/
def headWritesUptoCard : Claim7 := { stood := { row := headWritesUptoRow, standIns := [], harness := (true, "0906fc6413a742b41d2578c6567c13d64f5abda15336567cc02cb4157f5b57c5"), looks := true }, kinds := [], alts := [], laidByText := true, laidKinds := [.data, .data, .data, .handle], laidTests := true, laidLooks := .later }
def HeadWritesUptoCardSaid : Prop := Claim7.holds Tryd.pinned (.plain (OpenSpec.upto headWritesSpec)) headWritesUptoCard

/-- THE SECOND FORM's CARD OF 'revetmentkeep.HeadBack'. -/
def headBackUptoCard : Claim7 := { stood := { row := headBackUptoRow, standIns := [], harness := (true, "0906fc6413a742b41d2578c6567c13d64f5abda15336567cc02cb4157f5b57c5"), looks := true }, kinds := [], alts := [], laidByText := true, laidKinds := [.data, .pinned], laidTests := true, laidLooks := .later }
def HeadBackUptoCardSaid : Prop := Claim7.holds Tryd.pinned (.plain (OpenSpec.upto headBackSpec)) headBackUptoCard

/-- THE SECOND FORM's CARD OF 'revetmentkeep.HeadBent'. -/
def headBentUptoCard : Claim7 := { stood := { row := headBentUptoRow, standIns := [], harness := (true, "0906fc6413a742b41d2578c6567c13d64f5abda15336567cc02cb4157f5b57c5"), looks := true }, kinds := [], alts := [], laidByText := true, laidKinds := [.data, .handle, .pinned], laidTests := true, laidLooks := .later }
def HeadBentUptoCardSaid : Prop := Claim7.holds Tryd.pinned (.plain (OpenSpec.upto headBentSpec)) headBentUptoCard

/-- THE SECOND FORM's CARD OF 'revetmentkeep.HeadNames'. -/
def headNamesUptoCard : Claim7 := { stood := { row := headNamesUptoRow, standIns := [], harness := (true, "0906fc6413a742b41d2578c6567c13d64f5abda15336567cc02cb4157f5b57c5"), looks := true }, kinds := [], alts := [], laidByText := true, laidKinds := [.data, .pinned], laidTests := true, laidLooks := .later }
def HeadNamesUptoCardSaid : Prop := Claim7.holds Tryd.pinned (.plain (OpenSpec.upto headNamesSpec)) headNamesUptoCard

/-- THE SECOND FORM's CARD OF 'revetmentkeep.HeadOne'. -/
def headOneUptoCard : Claim7 := { stood := { row := headOneUptoRow, standIns := [], harness := (true, "0906fc6413a742b41d2578c6567c13d64f5abda15336567cc02cb4157f5b57c5"), looks := true }, kinds := [], alts := [], laidByText := true, laidKinds := [.data, .pinned], laidTests := true, laidLooks := .later }
def HeadOneUptoCardSaid : Prop := Claim7.holds Tryd.pinned (.plain (OpenSpec.upto headOneSpec)) headOneUptoCard
end Rows
end Go.Proofs.YtapfkjdkpcgoiaaDoor
