/-
  DERIVED. GIVEN WITH THE SEED: THE CARDS: each row of YtheiamidochooaaDoorRows.lean that lists a variable, with what it lists TIED to the program's text (the seventh form; the later family's looks); each row that meets fmt, with fmt's text TOLD by the authors' own Lean function (tested against real Go, not proved from fmt's source: count such statements apart). THE CARD IS WHAT COUNTS. Prove the row's statement (the work); the ties are given (YtheiamidochooaaDoorTie.lean); close each card by the builder's one call (the guide's Derived/Test/ToyasCard.lean, 'card_holds'). Laid BY PROGRAM, IN A SANDBOX (cutbox-door.mjs). By AI agents, Wed Nov 11 2026. No macro, syntax, notation, axiom, sorry.
-/
import Derived.Test.YtheiamidochooaaDoorRows
import GoSem.ClaimSeven
namespace Go.Proofs.YtheiamidochooaaDoor
namespace Rows

/-- THE TIED CARD OF 'revetmentlaw.PaxReads'. -/
def paxReadsCard : Claim7 := { stood := { row := paxReadsRow, standIns := [], harness := (true, "4c3c85e49a5a6f209e245e0f916b6227d2aef655ff5dde7e521afd2ee7044183"), looks := true }, kinds := [], alts := [], laidByText := true, laidKinds := [.data, .data, .data, .handle, .sentinel, .sentinel], laidTests := true, laidLooks := .later }
def PaxReadsCardSaid : Prop := Claim7.holds Tryd.pinned (.plain (OpenSpec.ofChange paxReadsSpec)) paxReadsCard

/-- THE TIED CARD OF 'revetmentlaw.PaxRecords'. -/
def paxRecordsCard : Claim7 := { stood := { row := paxRecordsRow, standIns := [], harness := (true, "4c3c85e49a5a6f209e245e0f916b6227d2aef655ff5dde7e521afd2ee7044183"), looks := true }, kinds := [], alts := [], laidByText := true, laidKinds := [.data, .data, .data, .handle], laidTests := true, laidLooks := .later }
def PaxRecordsCardSaid : Prop := Claim7.holds Tryd.pinned (.plain (OpenSpec.ofChange paxRecordsSpec)) paxRecordsCard

/-- THE TIED CARD OF 'revetmentlaw.PaxWrites'. -/
def paxWritesCard : Claim7 := { stood := { row := paxWritesRow, standIns := [], harness := (true, "4c3c85e49a5a6f209e245e0f916b6227d2aef655ff5dde7e521afd2ee7044183"), looks := true }, kinds := [], alts := [], laidByText := true, laidKinds := [.data, .data, .data, .handle], laidTests := true, laidLooks := .later }
def PaxWritesCardSaid : Prop := Claim7.holds Tryd.pinned (.plain (OpenSpec.ofChange paxWritesSpec)) paxWritesCard

/-- THE TIED CARD OF 'revetmentkeep.PaxBack'. -/
def paxBackCard : Claim7 := { stood := { row := paxBackRow, standIns := [], harness := (true, "4c3c85e49a5a6f209e245e0f916b6227d2aef655ff5dde7e521afd2ee7044183"), looks := true }, kinds := [], alts := [], laidByText := true, laidKinds := [.data, .data, .data, .sentinel, .sentinel], laidTests := true, laidLooks := .later }
def PaxBackCardSaid : Prop := Claim7.holds Tryd.pinned (.plain (OpenSpec.ofChange paxBackSpec)) paxBackCard

/-- THE TIED CARD OF 'revetmentkeep.PaxOne'. -/
def paxOneCard : Claim7 := { stood := { row := paxOneRow, standIns := [], harness := (true, "4c3c85e49a5a6f209e245e0f916b6227d2aef655ff5dde7e521afd2ee7044183"), looks := true }, kinds := [], alts := [], laidByText := true, laidKinds := [.data, .data, .data, .sentinel, .sentinel], laidTests := true, laidLooks := .later }
def PaxOneCardSaid : Prop := Claim7.holds Tryd.pinned (.plain (OpenSpec.ofChange paxOneSpec)) paxOneCard

/-- THE TIED CARD OF 'revetmentkeep.PaxMerges'. -/
def paxMergesCard : Claim7 := { stood := { row := paxMergesRow, standIns := [], harness := (true, "4c3c85e49a5a6f209e245e0f916b6227d2aef655ff5dde7e521afd2ee7044183"), looks := true }, kinds := [], alts := [], laidByText := true, laidKinds := [.data, .data, .data, .sentinel, .sentinel], laidTests := true, laidLooks := .later }
def PaxMergesCardSaid : Prop := Claim7.holds Tryd.pinned (.plain (OpenSpec.ofChange paxMergesSpec)) paxMergesCard

/-- THE TIED CARD OF 'revetmentkeep.PaxApart'. -/
def paxApartCard : Claim7 := { stood := { row := paxApartRow, standIns := [], harness := (true, "4c3c85e49a5a6f209e245e0f916b6227d2aef655ff5dde7e521afd2ee7044183"), looks := true }, kinds := [], alts := [], laidByText := true, laidKinds := [.data, .data, .data, .sentinel, .sentinel], laidTests := true, laidLooks := .later }
def PaxApartCardSaid : Prop := Claim7.holds Tryd.pinned (.plain (OpenSpec.ofChange paxApartSpec)) paxApartCard

/-- THE TIED CARD OF 'revetmentkeep.PaxOver'. -/
def paxOverCard : Claim7 := { stood := { row := paxOverRow, standIns := [], harness := (true, "4c3c85e49a5a6f209e245e0f916b6227d2aef655ff5dde7e521afd2ee7044183"), looks := true }, kinds := [], alts := [], laidByText := true, laidKinds := [.data, .data, .data, .sentinel, .sentinel], laidTests := true, laidLooks := .later }
def PaxOverCardSaid : Prop := Claim7.holds Tryd.pinned (.plain (OpenSpec.ofChange paxOverSpec)) paxOverCard

/-- THE SECOND FORM's CARD OF 'revetmentlaw.PaxReads'. -/
def paxReadsUptoCard : Claim7 := { stood := { row := paxReadsUptoRow, standIns := [], harness := (true, "4c3c85e49a5a6f209e245e0f916b6227d2aef655ff5dde7e521afd2ee7044183"), looks := true }, kinds := [], alts := [], laidByText := true, laidKinds := [.data, .data, .data, .handle, .sentinel, .sentinel], laidTests := true, laidLooks := .later }
def PaxReadsUptoCardSaid : Prop := Claim7.holds Tryd.pinned (.plain (OpenSpec.upto paxReadsSpec)) paxReadsUptoCard

/-- THE SECOND FORM's CARD OF 'revetmentlaw.PaxRecords'. -/
def paxRecordsUptoCard : Claim7 := { stood := { row := paxRecordsUptoRow, standIns := [], harness := (true, "4c3c85e49a5a6f209e245e0f916b6227d2aef655ff5dde7e521afd2ee7044183"), looks := true }, kinds := [], alts := [], laidByText := true, laidKinds := [.data, .data, .data, .handle], laidTests := true, laidLooks := .later }
def PaxRecordsUptoCardSaid : Prop := Claim7.holds Tryd.pinned (.plain (OpenSpec.upto paxRecordsSpec)) paxRecordsUptoCard

/-- THE SECOND FORM's CARD OF 'revetmentlaw.PaxWrites'. -/
def paxWritesUptoCard : Claim7 := { stood := { row := paxWritesUptoRow, standIns := [], harness := (true, "4c3c85e49a5a6f209e245e0f916b6227d2aef655ff5dde7e521afd2ee7044183"), looks := true }, kinds := [], alts := [], laidByText := true, laidKinds := [.data, .data, .data, .handle], laidTests := true, laidLooks := .later }
def PaxWritesUptoCardSaid : Prop := Claim7.holds Tryd.pinned (.plain (OpenSpec.upto paxWritesSpec)) paxWritesUptoCard

/-- THE SECOND FORM's CARD OF 'revetmentkeep.PaxBack'. -/
def paxBackUptoCard : Claim7 := { stood := { row := paxBackUptoRow, standIns := [], harness := (true, "4c3c85e49a5a6f209e245e0f916b6227d2aef655ff5dde7e521afd2ee7044183"), looks := true }, kinds := [], alts := [], laidByText := true, laidKinds := [.data, .data, .data, .sentinel, .sentinel], laidTests := true, laidLooks := .later }
def PaxBackUptoCardSaid : Prop := Claim7.holds Tryd.pinned (.plain (OpenSpec.upto paxBackSpec)) paxBackUptoCard

/-- THE SECOND FORM's CARD OF 'revetmentkeep.PaxOne'. -/
def paxOneUptoCard : Claim7 := { stood := { row := paxOneUptoRow, standIns := [], harness := (true, "4c3c85e49a5a6f209e245e0f916b6227d2aef655ff5dde7e521afd2ee7044183"), looks := true }, kinds := [], alts := [], laidByText := true, laidKinds := [.data, .data, .data, .sentinel, .sentinel], laidTests := true, laidLooks := .later }
def PaxOneUptoCardSaid : Prop := Claim7.holds Tryd.pinned (.plain (OpenSpec.upto paxOneSpec)) paxOneUptoCard

/-- THE SECOND FORM's CARD OF 'revetmentkeep.PaxMerges'. -/
def paxMergesUptoCard : Claim7 := { stood := { row := paxMergesUptoRow, standIns := [], harness := (true, "4c3c85e49a5a6f209e245e0f916b6227d2aef655ff5dde7e521afd2ee7044183"), looks := true }, kinds := [], alts := [], laidByText := true, laidKinds := [.data, .data, .data, .sentinel, .sentinel], laidTests := true, laidLooks := .later }
def PaxMergesUptoCardSaid : Prop := Claim7.holds Tryd.pinned (.plain (OpenSpec.upto paxMergesSpec)) paxMergesUptoCard

/-- THE SECOND FORM's CARD OF 'revetmentkeep.PaxApart'. -/
def paxApartUptoCard : Claim7 := { stood := { row := paxApartUptoRow, standIns := [], harness := (true, "4c3c85e49a5a6f209e245e0f916b6227d2aef655ff5dde7e521afd2ee7044183"), looks := true }, kinds := [], alts := [], laidByText := true, laidKinds := [.data, .data, .data, .sentinel, .sentinel], laidTests := true, laidLooks := .later }
def PaxApartUptoCardSaid : Prop := Claim7.holds Tryd.pinned (.plain (OpenSpec.upto paxApartSpec)) paxApartUptoCard

/-- THE SECOND FORM's CARD OF 'revetmentkeep.PaxOver'. -/
def paxOverUptoCard : Claim7 := { stood := { row := paxOverUptoRow, standIns := [], harness := (true, "4c3c85e49a5a6f209e245e0f916b6227d2aef655ff5dde7e521afd2ee7044183"), looks := true }, kinds := [], alts := [], laidByText := true, laidKinds := [.data, .data, .data, .sentinel, .sentinel], laidTests := true, laidLooks := .later }
def PaxOverUptoCardSaid : Prop := Claim7.holds Tryd.pinned (.plain (OpenSpec.upto paxOverSpec)) paxOverUptoCard
end Rows
end Go.Proofs.YtheiamidochooaaDoor
