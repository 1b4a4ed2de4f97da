/- Hr: what the texts of the name hold, joined. -/
import Derived.Test.YthnonmniponahaaGreatDoorQHb
import Derived.Test.YthnonmniponahaaGreatDoorQShelf
import Derived.Lib.IndexLaws
import Derived.Sort.LoopGhostIn
set_option linter.unusedSimpArgs false
set_option linter.unusedVariables false
section
/- strings.Cut at a zero byte. -/
namespace Go.Proofs.YthnonmniponahaaGreatDoor
open Go.RowKit Go.Joins
set_option linter.unusedVariables false
set_option linter.unusedSimpArgs false
end Go.Proofs.YthnonmniponahaaGreatDoor
end
section
/- head.Read. -/
namespace Go.Proofs.YthnonmniponahaaGreatDoor
open Go.RowKit Go.Joins
set_option linter.unusedVariables false
set_option linter.unusedSimpArgs false
/-- a header of nothing but this kind. -/
def rawZ (c : UInt8) : RawL := ⟨[], [], [], [], [], c, 0, 0, 0, 0, 0, 0, 0⟩
/-- A block that holds a header's fields. -/
def RawRow (w : World) (b : Nat) (q : RawL) : Prop := w.heap[b]? = some (.cells #[.string (mkS q.name), .string (mkS q.link), .string (mkS q.user), .string (mkS q.group), .string (mkS q.front), .int .u8 (q.kind.toNat : Int), .int .i64 q.mode, .int .i64 q.uid, .int .i64 q.gid, .int .i64 q.size, .int .i64 q.time, .int .i64 q.major, .int .i64 q.minor] 127 (0, 0))
theorem RawRow.at {w : World} {b : Nat} {q : RawL} (h : RawRow w b q) : RawAt w b q := RawAt.of_row h
theorem RawRow.lt {w : World} {b : Nat} {q : RawL} (h : RawRow w b q) : b < w.heap.size := (Array.getElem?_eq_some_iff.1 h).1
theorem RawRow.below {w w' : World} {b B : Nat} {q : RawL} (h : RawRow w b q) (hb : Below B w w') (hB : b < B) : RawRow w' b q := (hb.block b hB).trans h
/-- What reading a header comes to: the header, its dialect, and the error's number. -/
inductive ReadIs : List UInt8 → RawL → Int → Int → Prop
  | form (l : List UInt8) : l.length ≠ 512 → ReadIs l (rawZ 0) 0 3
  | spoilt (l : List UInt8) : l.length = 512 → ¬ rightL l → ReadIs l (rawZ 0) 0 15
  | range (l : List UInt8) : rightL l → ¬ numsRead l → ReadIs l (rawZ 0) 0 2
  | ok (l : List UInt8) : rightL l → numsRead l → ReadIs l (rawAt l) (dialF l) 0
end Go.Proofs.YthnonmniponahaaGreatDoor
end
section
/- What is written is read: the contracts. -/
namespace Go.Proofs.YthnonmniponahaaGreatDoor
open Go.RowKit Go.Joins
set_option linter.unusedVariables false
set_option linter.unusedSimpArgs false

end Go.Proofs.YthnonmniponahaaGreatDoor
end
