import Derived.Test.YtdjcjaidklgamaaGreatDoorCards
import Derived.Test.YtdjcjaidklgamaaGreatDoorTie
namespace Go.Proofs.YtdjcjaidklgamaaGreatDoor.Facts
theorem and1 {a b:Bool} (h:(a&&b)=true):a=true:=by cases a <;> simp_all
theorem and2 {a b:Bool} (h:(a&&b)=true):b=true:=by cases a <;> simp_all
theorem both:(Tryz.pinned.checked.prog.stopsHeard&&Tryz.pinned.checked.prog.mayEnter&&(false==Tryz.pinned.checked.prog.liftsFinal)&&(true==Tryz.pinned.checked.prog.looks [])&&(Tryz.pinned.checked.prog.make==some Rows.memberOneRow.make))=true:=by kernel_rfl
theorem make:(Tryz.pinned.checked.prog.make==some Rows.memberOneRow.make)=true:=and2 both
theorem looks:true=Tryz.pinned.checked.prog.looks []:=by simpa using and2 (and1 both)
theorem lifts:(false==Tryz.pinned.checked.prog.liftsFinal)=true:=and2 (and1 (and1 both))
theorem enters:Tryz.pinned.checked.prog.mayEnter=true:=and2 (and1 (and1 (and1 both)))
theorem heard:Tryz.pinned.checked.prog.stopsHeard=true:=and1 (and1 (and1 (and1 both)))
theorem main:Tryz.pinned.checked.prog.mainIs=some (Rows.memberOneCard.stood.harness.1,Rows.memberOneCard.stood.harness.2.toList):=by kernel_rfl
theorem goes:([Rows.memberOneRow,Rows.memberAlikeRow,Rows.memberAtRow,Rows.memberBackRow,Rows.memberRoomRow,Rows.memberOverRow,Rows.streamOneRow,Rows.streamMoreRow,Rows.streamGlobalRow,Rows.streamBackRow,Rows.streamPiecesRow,Rows.streamCutRow,Rows.streamBentRow,Rows.streamRescuesRow].all fun c=>!(OpenClaim.goesBy c Tryz.pinned.checked.prog))=true:=by kernel_rfl
theorem goesOf {c:OpenClaim} (h:c∈[Rows.memberOneRow,Rows.memberAlikeRow,Rows.memberAtRow,Rows.memberBackRow,Rows.memberRoomRow,Rows.memberOverRow,Rows.streamOneRow,Rows.streamMoreRow,Rows.streamGlobalRow,Rows.streamBackRow,Rows.streamPiecesRow,Rows.streamCutRow,Rows.streamBentRow,Rows.streamRescuesRow]):false=c.goesBy Tryz.pinned.checked.prog:=by
 have:=List.all_eq_true.1 goes c h
 simpa using this
end Go.Proofs.YtdjcjaidklgamaaGreatDoor.Facts
