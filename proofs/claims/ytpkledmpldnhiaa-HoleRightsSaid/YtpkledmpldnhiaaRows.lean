/-
  No cell of these rows narrows 'for every input' (looked for: loops, veiled, ifaces, maps, wideKeys, modest, calm, conditions, laid).
  DERIVED. THE GIVEN ROWS OF THIS SEAT. 3 by the template 'for every input the law returns true; each argument reads behind the call as it read before'; 0 by the template 'total and deterministic' (their statements: YtpkledmpldnhiaaTotals.lean).
  GIVEN WITH THE SEED: the statements are not yours to turn. If you find one false, say at which input.
  Laid BY PROGRAM, IN A SANDBOX (cutbox-rows.mjs): the forced cells as the released guide's own fill.sh prints them over the translation b45ed2cac75b3dc0… (all of the seat's roots in one cut). By AI agents, Wed Nov 11 2026. No macro, syntax, notation, axiom, sorry.
-/
import Derived.Test.YtpkledmpldnhiaaChecked
import GoSem.Claim
import GoSem.ClaimJoined
import GoSem.ClaimMapViews
import Derived.JoinedTies
import Derived.KernelRfl
namespace Go.Proofs.Ytpkledmpldnhiaa
/- THE CELL 'sum', in the pinned program and in every row, IS THE sha256 OF THE DUMP (.gsa) THAT YtpkledmpldnhiaaProg.lean LOADS. Nothing in Lean hashes anything: it is a label: what it is worth is what the hold of that sum in a sandbox is worth. -/
noncomputable def Try.pinned : Pinned := { name := "ytpkledmpldnhiaa", sum := "b45ed2cac75b3dc0cdcbf0dda1c93aeea73ce975e40ce7d7924e65dd4ab74cf6", checked := Try.checked }
namespace Rows
def none {H : Type} : Left H := { results := [], args := [] }

/-- 'revetmentlaw.HoleRights': WHATEVER THE INPUT: true; the input reads as it did. -/
def holeRightsSpec : ChangeSpec := { name := "holeRights", fn := fun _ => fun
  | [d1, d2] => { results := [.lit (.bool true)], args := [d1, d2] }
  | _ => none }
def holeRightsRow : OpenClaim := { program := "ytpkledmpldnhiaa", sum := "b45ed2cac75b3dc0cdcbf0dda1c93aeea73ce975e40ce7d7924e65dd4ab74cf6", func := "revetment/revetmentlaw.HoleRights", spec := "holeRights", apart := false }
def HoleRightsSaid : Prop := holeRightsRow.holds Try.pinned (OpenSpec.ofChange holeRightsSpec)

/-- ITS FALSE NEIGHBOUR: 'it returns false'. Refute it at one input. -/
def holeRightsWrong : ChangeSpec := { name := "holeRights", fn := fun _ => fun
  | [d1, d2] => { results := [.lit (.bool false)], args := [d1, d2] }
  | _ => none }
def HoleRightsWrongFalsely : Prop := holeRightsRow.holds Try.pinned (OpenSpec.ofChange holeRightsWrong)

/-- 'revetmentkeep.HolePuts': WHATEVER THE INPUT: true; the input reads as it did. -/
def holePutsSpec : ChangeSpec := { name := "holePuts", fn := fun _ => fun
  | [d1, d2, d3, d4] => { results := [.lit (.bool true)], args := [d1, d2, d3, d4] }
  | _ => none }
def holePutsRow : OpenClaim := { program := "ytpkledmpldnhiaa", sum := "b45ed2cac75b3dc0cdcbf0dda1c93aeea73ce975e40ce7d7924e65dd4ab74cf6", func := "revetment/revetmentkeep.HolePuts", spec := "holePuts", inPlace := ["internal/abi.NoEscape"], unfollowed := true, recurses := true, apart := false }
def HolePutsSaid : Prop := holePutsRow.holds Try.pinned (OpenSpec.ofChange holePutsSpec)

/-- ITS FALSE NEIGHBOUR: 'it returns false'. Refute it at one input. -/
def holePutsWrong : ChangeSpec := { name := "holePuts", fn := fun _ => fun
  | [d1, d2, d3, d4] => { results := [.lit (.bool false)], args := [d1, d2, d3, d4] }
  | _ => none }
def HolePutsWrongFalsely : Prop := holePutsRow.holds Try.pinned (OpenSpec.ofChange holePutsWrong)

/-- 'revetmentkeep.HolePieces': WHATEVER THE INPUT: true; the input reads as it did. -/
def holePiecesSpec : ChangeSpec := { name := "holePieces", fn := fun _ => fun
  | [d1, d2, d3] => { results := [.lit (.bool true)], args := [d1, d2, d3] }
  | _ => none }
def holePiecesRow : OpenClaim := { program := "ytpkledmpldnhiaa", sum := "b45ed2cac75b3dc0cdcbf0dda1c93aeea73ce975e40ce7d7924e65dd4ab74cf6", func := "revetment/revetmentkeep.HolePieces", spec := "holePieces", apart := false }
def HolePiecesSaid : Prop := holePiecesRow.holds Try.pinned (OpenSpec.ofChange holePiecesSpec)

/-- ITS FALSE NEIGHBOUR: 'it returns false'. Refute it at one input. -/
def holePiecesWrong : ChangeSpec := { name := "holePieces", fn := fun _ => fun
  | [d1, d2, d3] => { results := [.lit (.bool false)], args := [d1, d2, d3] }
  | _ => none }
def HolePiecesWrongFalsely : Prop := holePiecesRow.holds Try.pinned (OpenSpec.ofChange holePiecesWrong)

/- THE SECOND FORM. 'bulk': how many values and letters a reading holds, each counted each time it is reached (what is shared counts as often as it is met; a slice's spare places count too). A statement '..UptoSaid' is the law's where the arguments, and the package variables that the reading takes, are together of bulk at most 1048576: NARROWER than '..Said'. Prove '..Said' where nothing that the law and all that it calls make is longer than what came in: it says more and counts as full. Else prove '..UptoSaid'. A law counts once. -/
mutual
def uptoBulk {H : Type} : DataW H → Nat
  | .lit (.string bytes) => bytes.length + 1
  | .lit _ => 1
  | .nil => 1
  | .ptr d => uptoBulk d + 1
  | .slice elems spare => uptoBulkAll elems + uptoBulkAll spare + 1
  | .agg parts => uptoBulkAll parts + 1
  | .iface _ d => uptoBulk d + 1
  | .map entries => uptoBulkEntries entries + 1
  | .held _ => 1
def uptoBulkAll {H : Type} : List (DataW H) → Nat
  | [] => 0
  | d :: r => uptoBulk d + uptoBulkAll r
def uptoBulkEntries {H : Type} : List (Lit × DataW H) → Nat
  | [] => 0
  | x :: r => uptoBulkEntry x + uptoBulkEntries r
def uptoBulkEntry {H : Type} : Lit × DataW H → Nat
  | (.string bytes, d) => bytes.length + uptoBulk d + 1
  | (_, d) => uptoBulk d + 1
 end
def uptoSmall : (H : Type) → List (DataW H) → Bool := fun _ ds => decide (uptoBulkAll ds ≤ 1048576)
def OpenSpec.upto (s : _root_.Go.ChangeSpec) : _root_.Go.OpenSpec := { _root_.Go.OpenSpec.ofChange s with cond := some uptoSmall }

/-- 'revetmentlaw.HoleRights', WHERE WHAT IT READS IS OF BULK AT MOST 1048576: true; the input reads as it did. -/
def holeRightsUptoRow : OpenClaim := { program := "ytpkledmpldnhiaa", sum := "b45ed2cac75b3dc0cdcbf0dda1c93aeea73ce975e40ce7d7924e65dd4ab74cf6", func := "revetment/revetmentlaw.HoleRights", spec := "holeRights", apart := false, narrowed := true }
def HoleRightsUptoSaid : Prop := holeRightsUptoRow.holds Try.pinned (OpenSpec.upto holeRightsSpec)

/-- 'revetmentkeep.HolePuts', WHERE WHAT IT READS IS OF BULK AT MOST 1048576: true; the input reads as it did. -/
def holePutsUptoRow : OpenClaim := { program := "ytpkledmpldnhiaa", sum := "b45ed2cac75b3dc0cdcbf0dda1c93aeea73ce975e40ce7d7924e65dd4ab74cf6", func := "revetment/revetmentkeep.HolePuts", spec := "holePuts", inPlace := ["internal/abi.NoEscape"], unfollowed := true, recurses := true, apart := false, narrowed := true }
def HolePutsUptoSaid : Prop := holePutsUptoRow.holds Try.pinned (OpenSpec.upto holePutsSpec)

/-- 'revetmentkeep.HolePieces', WHERE WHAT IT READS IS OF BULK AT MOST 1048576: true; the input reads as it did. -/
def holePiecesUptoRow : OpenClaim := { program := "ytpkledmpldnhiaa", sum := "b45ed2cac75b3dc0cdcbf0dda1c93aeea73ce975e40ce7d7924e65dd4ab74cf6", func := "revetment/revetmentkeep.HolePieces", spec := "holePieces", apart := false, narrowed := true }
def HolePiecesUptoSaid : Prop := holePiecesUptoRow.holds Try.pinned (OpenSpec.upto holePiecesSpec)

end Rows
end Go.Proofs.Ytpkledmpldnhiaa
