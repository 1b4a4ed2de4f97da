/-
  DERIVED. GIVEN WITH THE SEED: THE CARDS: each row of YthnonmniponahaaGreatDoorRows.lean that lists a variable, with what it lists TIED to the program's text (the seventh form; the later family's looks); each row that meets fmt, with fmt's text TOLD by the authors' own Lean function (tested against real Go, not proved from fmt's source: count such statements apart). THE CARD IS WHAT COUNTS. Prove the row's statement (the work); the ties are given (YthnonmniponahaaGreatDoorTie.lean); close each card by the builder's one call (the guide's Derived/Test/ToyasCard.lean, 'card_holds'). Laid BY PROGRAM, IN A SANDBOX (cutbox-door.mjs). By AI agents, Wed Nov 11 2026. No macro, syntax, notation, axiom, sorry.
-/
import Derived.Test.YthnonmniponahaaGreatDoorRows
import GoSem.ClaimSeven
namespace Go.Proofs.YthnonmniponahaaGreatDoor
namespace Rows

/-- THE TIED CARD OF 'revetmentlaw.MemberReads'. -/
def memberReadsCard : Claim7 := { stood := { row := memberReadsRow, standIns := [], harness := (true, "3c5697d35df838431b4f6f9620e7f9d8728a1652c547985bcc7e3f8196a3eff6"), looks := true }, kinds := [], alts := [], laidByText := true, laidKinds := [.data, .data, .data, .data, .handle, .sentinel, .sentinel, .pinned], laidTests := true, laidLooks := .later }
def MemberReadsCardSaid : Prop := Claim7.holds Tryz.pinned (.plain (OpenSpec.ofChange memberReadsSpec)) memberReadsCard

/-- THE TIED CARD OF 'revetmentlaw.MemberWrites'. -/
def memberWritesCard : Claim7 := { stood := { row := memberWritesRow, standIns := [], harness := (true, "3c5697d35df838431b4f6f9620e7f9d8728a1652c547985bcc7e3f8196a3eff6"), looks := true }, kinds := [], alts := [], laidByText := true, laidKinds := [.data, .data, .data, .data, .handle, .pinned], laidTests := true, laidLooks := .later }
def MemberWritesCardSaid : Prop := Claim7.holds Tryz.pinned (.plain (OpenSpec.ofChange memberWritesSpec)) memberWritesCard

/-- THE TIED CARD OF 'revetmentlaw.MemberGnu'. -/
def memberGnuCard : Claim7 := { stood := { row := memberGnuRow, standIns := [], harness := (true, "3c5697d35df838431b4f6f9620e7f9d8728a1652c547985bcc7e3f8196a3eff6"), looks := true }, kinds := [], alts := [], laidByText := true, laidKinds := [.data, .data, .data, .data, .handle, .pinned], laidTests := true, laidLooks := .later }
def MemberGnuCardSaid : Prop := Claim7.holds Tryz.pinned (.plain (OpenSpec.ofChange memberGnuSpec)) memberGnuCard

/-- THE TIED CARD OF 'revetmentlaw.MemberPax'. -/
def memberPaxCard : Claim7 := { stood := { row := memberPaxRow, standIns := [], harness := (true, "3c5697d35df838431b4f6f9620e7f9d8728a1652c547985bcc7e3f8196a3eff6"), looks := true }, kinds := [], alts := [], laidByText := true, laidKinds := [.data, .data, .data, .data, .handle, .pinned], laidTests := true, laidLooks := .later }
def MemberPaxCardSaid : Prop := Claim7.holds Tryz.pinned (.plain (OpenSpec.ofChange memberPaxSpec)) memberPaxCard

/-- THE TIED CARD OF 'revetmentkeep.MemberOne'. -/
def memberOneCard : Claim7 := { stood := { row := memberOneRow, standIns := [], harness := (true, "3c5697d35df838431b4f6f9620e7f9d8728a1652c547985bcc7e3f8196a3eff6"), looks := true }, kinds := [], alts := [], laidByText := true, laidKinds := [.data, .data, .data, .data, .handle, .sentinel, .sentinel, .pinned], laidTests := true, laidLooks := .later }
def MemberOneCardSaid : Prop := Claim7.holds Tryz.pinned (.plain (OpenSpec.ofChange memberOneSpec)) memberOneCard

/-- THE TIED CARD OF 'revetmentkeep.MemberAlike'. -/
def memberAlikeCard : Claim7 := { stood := { row := memberAlikeRow, standIns := [], harness := (true, "3c5697d35df838431b4f6f9620e7f9d8728a1652c547985bcc7e3f8196a3eff6"), looks := true }, kinds := [], alts := [], laidByText := true, laidKinds := [.data, .data, .data, .data, .handle, .sentinel, .sentinel, .pinned], laidTests := true, laidLooks := .later }
def MemberAlikeCardSaid : Prop := Claim7.holds Tryz.pinned (.plain (OpenSpec.ofChange memberAlikeSpec)) memberAlikeCard

/-- THE TIED CARD OF 'revetmentkeep.MemberAt'. -/
def memberAtCard : Claim7 := { stood := { row := memberAtRow, standIns := [], harness := (true, "3c5697d35df838431b4f6f9620e7f9d8728a1652c547985bcc7e3f8196a3eff6"), looks := true }, kinds := [], alts := [], laidByText := true, laidKinds := [.data, .data, .data, .data, .handle, .sentinel, .sentinel, .pinned], laidTests := true, laidLooks := .later }
def MemberAtCardSaid : Prop := Claim7.holds Tryz.pinned (.plain (OpenSpec.ofChange memberAtSpec)) memberAtCard

/-- THE TIED CARD OF 'revetmentkeep.MemberBack'. -/
def memberBackCard : Claim7 := { stood := { row := memberBackRow, standIns := [], harness := (true, "3c5697d35df838431b4f6f9620e7f9d8728a1652c547985bcc7e3f8196a3eff6"), looks := true }, kinds := [], alts := [], laidByText := true, laidKinds := [.data, .data, .data, .data, .handle, .sentinel, .sentinel, .pinned], laidTests := true, laidLooks := .later }
def MemberBackCardSaid : Prop := Claim7.holds Tryz.pinned (.plain (OpenSpec.ofChange memberBackSpec)) memberBackCard

/-- THE TIED CARD OF 'revetmentkeep.MemberRoom'. -/
def memberRoomCard : Claim7 := { stood := { row := memberRoomRow, standIns := [], harness := (true, "3c5697d35df838431b4f6f9620e7f9d8728a1652c547985bcc7e3f8196a3eff6"), looks := true }, kinds := [], alts := [], laidByText := true, laidKinds := [.data, .data, .data, .data, .handle, .sentinel, .sentinel, .pinned], laidTests := true, laidLooks := .later }
def MemberRoomCardSaid : Prop := Claim7.holds Tryz.pinned (.plain (OpenSpec.ofChange memberRoomSpec)) memberRoomCard

/-- THE TIED CARD OF 'revetmentkeep.MemberOver'. -/
def memberOverCard : Claim7 := { stood := { row := memberOverRow, standIns := [], harness := (true, "3c5697d35df838431b4f6f9620e7f9d8728a1652c547985bcc7e3f8196a3eff6"), looks := true }, kinds := [], alts := [], laidByText := true, laidKinds := [.data, .data, .data, .data, .handle, .sentinel, .sentinel, .pinned], laidTests := true, laidLooks := .later }
def MemberOverCardSaid : Prop := Claim7.holds Tryz.pinned (.plain (OpenSpec.ofChange memberOverSpec)) memberOverCard

/-- THE SECOND FORM's CARD OF 'revetmentlaw.MemberReads'. -/
def memberReadsUptoCard : Claim7 := { stood := { row := memberReadsUptoRow, standIns := [], harness := (true, "3c5697d35df838431b4f6f9620e7f9d8728a1652c547985bcc7e3f8196a3eff6"), looks := true }, kinds := [], alts := [], laidByText := true, laidKinds := [.data, .data, .data, .data, .handle, .sentinel, .sentinel, .pinned], laidTests := true, laidLooks := .later }
def MemberReadsUptoCardSaid : Prop := Claim7.holds Tryz.pinned (.plain (OpenSpec.upto memberReadsSpec)) memberReadsUptoCard

/-- THE SECOND FORM's CARD OF 'revetmentlaw.MemberWrites'. -/
def memberWritesUptoCard : Claim7 := { stood := { row := memberWritesUptoRow, standIns := [], harness := (true, "3c5697d35df838431b4f6f9620e7f9d8728a1652c547985bcc7e3f8196a3eff6"), looks := true }, kinds := [], alts := [], laidByText := true, laidKinds := [.data, .data, .data, .data, .handle, .pinned], laidTests := true, laidLooks := .later }
def MemberWritesUptoCardSaid : Prop := Claim7.holds Tryz.pinned (.plain (OpenSpec.upto memberWritesSpec)) memberWritesUptoCard

/-- THE SECOND FORM's CARD OF 'revetmentlaw.MemberGnu'. -/
def memberGnuUptoCard : Claim7 := { stood := { row := memberGnuUptoRow, standIns := [], harness := (true, "3c5697d35df838431b4f6f9620e7f9d8728a1652c547985bcc7e3f8196a3eff6"), looks := true }, kinds := [], alts := [], laidByText := true, laidKinds := [.data, .data, .data, .data, .handle, .pinned], laidTests := true, laidLooks := .later }
def MemberGnuUptoCardSaid : Prop := Claim7.holds Tryz.pinned (.plain (OpenSpec.upto memberGnuSpec)) memberGnuUptoCard

/-- THE SECOND FORM's CARD OF 'revetmentlaw.MemberPax'. -/
def memberPaxUptoCard : Claim7 := { stood := { row := memberPaxUptoRow, standIns := [], harness := (true, "3c5697d35df838431b4f6f9620e7f9d8728a1652c547985bcc7e3f8196a3eff6"), looks := true }, kinds := [], alts := [], laidByText := true, laidKinds := [.data, .data, .data, .data, .handle, .pinned], laidTests := true, laidLooks := .later }
def MemberPaxUptoCardSaid : Prop := Claim7.holds Tryz.pinned (.plain (OpenSpec.upto memberPaxSpec)) memberPaxUptoCard

/-- THE SECOND FORM's CARD OF 'revetmentkeep.MemberOne'. -/
def memberOneUptoCard : Claim7 := { stood := { row := memberOneUptoRow, standIns := [], harness := (true, "3c5697d35df838431b4f6f9620e7f9d8728a1652c547985bcc7e3f8196a3eff6"), looks := true }, kinds := [], alts := [], laidByText := true, laidKinds := [.data, .data, .data, .data, .handle, .sentinel, .sentinel, .pinned], laidTests := true, laidLooks := .later }
def MemberOneUptoCardSaid : Prop := Claim7.holds Tryz.pinned (.plain (OpenSpec.upto memberOneSpec)) memberOneUptoCard

/-- THE SECOND FORM's CARD OF 'revetmentkeep.MemberAlike'. -/
def memberAlikeUptoCard : Claim7 := { stood := { row := memberAlikeUptoRow, standIns := [], harness := (true, "3c5697d35df838431b4f6f9620e7f9d8728a1652c547985bcc7e3f8196a3eff6"), looks := true }, kinds := [], alts := [], laidByText := true, laidKinds := [.data, .data, .data, .data, .handle, .sentinel, .sentinel, .pinned], laidTests := true, laidLooks := .later }
def MemberAlikeUptoCardSaid : Prop := Claim7.holds Tryz.pinned (.plain (OpenSpec.upto memberAlikeSpec)) memberAlikeUptoCard

/-- THE SECOND FORM's CARD OF 'revetmentkeep.MemberAt'. -/
def memberAtUptoCard : Claim7 := { stood := { row := memberAtUptoRow, standIns := [], harness := (true, "3c5697d35df838431b4f6f9620e7f9d8728a1652c547985bcc7e3f8196a3eff6"), looks := true }, kinds := [], alts := [], laidByText := true, laidKinds := [.data, .data, .data, .data, .handle, .sentinel, .sentinel, .pinned], laidTests := true, laidLooks := .later }
def MemberAtUptoCardSaid : Prop := Claim7.holds Tryz.pinned (.plain (OpenSpec.upto memberAtSpec)) memberAtUptoCard

/-- THE SECOND FORM's CARD OF 'revetmentkeep.MemberBack'. -/
def memberBackUptoCard : Claim7 := { stood := { row := memberBackUptoRow, standIns := [], harness := (true, "3c5697d35df838431b4f6f9620e7f9d8728a1652c547985bcc7e3f8196a3eff6"), looks := true }, kinds := [], alts := [], laidByText := true, laidKinds := [.data, .data, .data, .data, .handle, .sentinel, .sentinel, .pinned], laidTests := true, laidLooks := .later }
def MemberBackUptoCardSaid : Prop := Claim7.holds Tryz.pinned (.plain (OpenSpec.upto memberBackSpec)) memberBackUptoCard

/-- THE SECOND FORM's CARD OF 'revetmentkeep.MemberRoom'. -/
def memberRoomUptoCard : Claim7 := { stood := { row := memberRoomUptoRow, standIns := [], harness := (true, "3c5697d35df838431b4f6f9620e7f9d8728a1652c547985bcc7e3f8196a3eff6"), looks := true }, kinds := [], alts := [], laidByText := true, laidKinds := [.data, .data, .data, .data, .handle, .sentinel, .sentinel, .pinned], laidTests := true, laidLooks := .later }
def MemberRoomUptoCardSaid : Prop := Claim7.holds Tryz.pinned (.plain (OpenSpec.upto memberRoomSpec)) memberRoomUptoCard

/-- THE SECOND FORM's CARD OF 'revetmentkeep.MemberOver'. -/
def memberOverUptoCard : Claim7 := { stood := { row := memberOverUptoRow, standIns := [], harness := (true, "3c5697d35df838431b4f6f9620e7f9d8728a1652c547985bcc7e3f8196a3eff6"), looks := true }, kinds := [], alts := [], laidByText := true, laidKinds := [.data, .data, .data, .data, .handle, .sentinel, .sentinel, .pinned], laidTests := true, laidLooks := .later }
def MemberOverUptoCardSaid : Prop := Claim7.holds Tryz.pinned (.plain (OpenSpec.upto memberOverSpec)) memberOverUptoCard
end Rows
end Go.Proofs.YthnonmniponahaaGreatDoor
