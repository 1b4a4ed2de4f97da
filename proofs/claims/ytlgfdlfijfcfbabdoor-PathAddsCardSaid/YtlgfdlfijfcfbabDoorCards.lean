/-
  DERIVED. GIVEN WITH THE SEED: THE CARDS: each row of YtlgfdlfijfcfbabDoorRows.lean that lists a variable, with what it lists TIED to the program's text (the seventh form; the later family's looks); each row that meets fmt, with fmt's text TOLD by the authors' own Lean function (tested against real Go, not proved from fmt's source: count such statements apart). THE CARD IS WHAT COUNTS. Prove the row's statement (the work); the ties are given (YtlgfdlfijfcfbabDoorTie.lean); close each card by the builder's one call (the guide's Derived/Test/ToyasCard.lean, 'card_holds'). Laid BY PROGRAM, IN A SANDBOX (cutbox-door.mjs). By AI agents, Wed Nov 11 2026. No macro, syntax, notation, axiom, sorry.
-/
import Derived.Test.YtlgfdlfijfcfbabDoorRows
import GoSem.ClaimSeven
namespace Go.Proofs.YtlgfdlfijfcfbabDoor
namespace Rows

/-- THE TIED CARD OF 'revetmentkeep.PathSplit'. -/
def pathSplitCard : Claim7 := { stood := { row := pathSplitRow, standIns := [], harness := (true, "766acc6e51a083ad3ceff281ddf7bf14126c658e7088497b8ac50629bc0c1b59"), looks := false }, kinds := [], alts := [], laidByText := true, laidKinds := [.data, .pinned], laidTests := true, laidLooks := .later }
def PathSplitCardSaid : Prop := Claim7.holds Tryd.pinned (.plain (OpenSpec.ofChange pathSplitSpec)) pathSplitCard

/-- THE TIED CARD OF 'revetmentkeep.PathAdds'. -/
def pathAddsCard : Claim7 := { stood := { row := pathAddsRow, standIns := [], harness := (true, "766acc6e51a083ad3ceff281ddf7bf14126c658e7088497b8ac50629bc0c1b59"), looks := false }, kinds := [], alts := [], laidByText := true, laidKinds := [.data, .pinned], laidTests := true, laidLooks := .later }
def PathAddsCardSaid : Prop := Claim7.holds Tryd.pinned (.plain (OpenSpec.ofChange pathAddsSpec)) pathAddsCard

/-- THE TIED CARD OF 'revetmentkeep.PathUnder'. -/
def pathUnderCard : Claim7 := { stood := { row := pathUnderRow, standIns := [], harness := (true, "766acc6e51a083ad3ceff281ddf7bf14126c658e7088497b8ac50629bc0c1b59"), looks := false }, kinds := [], alts := [], laidByText := true, laidKinds := [.data, .pinned], laidTests := true, laidLooks := .later }
def PathUnderCardSaid : Prop := Claim7.holds Tryd.pinned (.plain (OpenSpec.ofChange pathUnderSpec)) pathUnderCard

/-- THE TIED CARD OF 'revetmentkeep.PathUp'. -/
def pathUpCard : Claim7 := { stood := { row := pathUpRow, standIns := [], harness := (true, "766acc6e51a083ad3ceff281ddf7bf14126c658e7088497b8ac50629bc0c1b59"), looks := false }, kinds := [], alts := [], laidByText := true, laidKinds := [.data, .pinned], laidTests := true, laidLooks := .later }
def PathUpCardSaid : Prop := Claim7.holds Tryd.pinned (.plain (OpenSpec.ofChange pathUpSpec)) pathUpCard

/-- THE SECOND FORM's CARD OF 'revetmentkeep.PathSplit'. -/
def pathSplitUptoCard : Claim7 := { stood := { row := pathSplitUptoRow, standIns := [], harness := (true, "766acc6e51a083ad3ceff281ddf7bf14126c658e7088497b8ac50629bc0c1b59"), looks := false }, kinds := [], alts := [], laidByText := true, laidKinds := [.data, .pinned], laidTests := true, laidLooks := .later }
def PathSplitUptoCardSaid : Prop := Claim7.holds Tryd.pinned (.plain (OpenSpec.upto pathSplitSpec)) pathSplitUptoCard

/-- THE SECOND FORM's CARD OF 'revetmentkeep.PathAdds'. -/
def pathAddsUptoCard : Claim7 := { stood := { row := pathAddsUptoRow, standIns := [], harness := (true, "766acc6e51a083ad3ceff281ddf7bf14126c658e7088497b8ac50629bc0c1b59"), looks := false }, kinds := [], alts := [], laidByText := true, laidKinds := [.data, .pinned], laidTests := true, laidLooks := .later }
def PathAddsUptoCardSaid : Prop := Claim7.holds Tryd.pinned (.plain (OpenSpec.upto pathAddsSpec)) pathAddsUptoCard

/-- THE SECOND FORM's CARD OF 'revetmentkeep.PathUnder'. -/
def pathUnderUptoCard : Claim7 := { stood := { row := pathUnderUptoRow, standIns := [], harness := (true, "766acc6e51a083ad3ceff281ddf7bf14126c658e7088497b8ac50629bc0c1b59"), looks := false }, kinds := [], alts := [], laidByText := true, laidKinds := [.data, .pinned], laidTests := true, laidLooks := .later }
def PathUnderUptoCardSaid : Prop := Claim7.holds Tryd.pinned (.plain (OpenSpec.upto pathUnderSpec)) pathUnderUptoCard

/-- THE SECOND FORM's CARD OF 'revetmentkeep.PathUp'. -/
def pathUpUptoCard : Claim7 := { stood := { row := pathUpUptoRow, standIns := [], harness := (true, "766acc6e51a083ad3ceff281ddf7bf14126c658e7088497b8ac50629bc0c1b59"), looks := false }, kinds := [], alts := [], laidByText := true, laidKinds := [.data, .pinned], laidTests := true, laidLooks := .later }
def PathUpUptoCardSaid : Prop := Claim7.holds Tryd.pinned (.plain (OpenSpec.upto pathUpSpec)) pathUpUptoCard
end Rows
end Go.Proofs.YtlgfdlfijfcfbabDoor
