/-
  No cell of these rows narrows 'for every input' (looked for: loops, veiled, ifaces, maps, wideKeys, modest, calm, conditions, laid).
  DERIVED. THE GIVEN ROWS OF THIS SEAT. 2 by the template 'for every input the law returns true; each argument reads behind the call as it read before'; 0 by the template 'total and deterministic' (their statements: YtncdmineepagpaaTotals.lean).
  GIVEN WITH THE SEED: the statements are not yours to turn. If you find one false, say at which input.
  Laid BY PROGRAM, IN A SANDBOX (cutbox-rows.mjs): the forced cells as the released guide's own fill.sh prints them over the translation 1e313d459abc4496… (all of the seat's roots in one cut). By AI agents, Wed Nov 11 2026. No macro, syntax, notation, axiom, sorry.
-/
import Derived.Test.YtncdmineepagpaaChecked
import GoSem.Claim
import GoSem.ClaimJoined
import GoSem.ClaimMapViews
import Derived.JoinedTies
import Derived.KernelRfl
namespace Go.Proofs.Ytncdmineepagpaa
/- THE CELL 'sum', in the pinned program and in every row, IS THE sha256 OF THE DUMP (.gsa) THAT YtncdmineepagpaaProg.lean LOADS. Nothing in Lean hashes anything: it is a label: what it is worth is what the hold of that sum in a sandbox is worth. -/
noncomputable def Try.pinned : Pinned := { name := "ytncdmineepagpaa", sum := "1e313d459abc4496a92fab73712237f068c81be3b9e574170c47dbac514f1621", checked := Try.checked }
namespace Rows
def none {H : Type} : Left H := { results := [], args := [] }

/-- 'revetmentlaw.StampRights': WHATEVER THE INPUT: true; the input reads as it did. -/
def stampRightsSpec : ChangeSpec := { name := "stampRights", fn := fun _ => fun
  | [d] => { results := [.lit (.bool true)], args := [d] }
  | _ => none }
def stampRightsRow : OpenClaim := { program := "ytncdmineepagpaa", sum := "1e313d459abc4496a92fab73712237f068c81be3b9e574170c47dbac514f1621", func := "revetment/revetmentlaw.StampRights", spec := "stampRights", apart := false }
def StampRightsSaid : Prop := stampRightsRow.holds Try.pinned (OpenSpec.ofChange stampRightsSpec)

/-- ITS FALSE NEIGHBOUR: 'it returns false'. Refute it at one input. -/
def stampRightsWrong : ChangeSpec := { name := "stampRights", fn := fun _ => fun
  | [d] => { results := [.lit (.bool false)], args := [d] }
  | _ => none }
def StampRightsWrongFalsely : Prop := stampRightsRow.holds Try.pinned (OpenSpec.ofChange stampRightsWrong)

/-- 'revetmentlaw.StampBefore': WHATEVER THE INPUT: true; the input reads as it did. -/
def stampBeforeSpec : ChangeSpec := { name := "stampBefore", fn := fun _ => fun
  | [d1, d2] => { results := [.lit (.bool true)], args := [d1, d2] }
  | _ => none }
def stampBeforeRow : OpenClaim := { program := "ytncdmineepagpaa", sum := "1e313d459abc4496a92fab73712237f068c81be3b9e574170c47dbac514f1621", func := "revetment/revetmentlaw.StampBefore", spec := "stampBefore", apart := false }
def StampBeforeSaid : Prop := stampBeforeRow.holds Try.pinned (OpenSpec.ofChange stampBeforeSpec)

/-- ITS FALSE NEIGHBOUR: 'it returns false'. Refute it at one input. -/
def stampBeforeWrong : ChangeSpec := { name := "stampBefore", fn := fun _ => fun
  | [d1, d2] => { results := [.lit (.bool false)], args := [d1, d2] }
  | _ => none }
def StampBeforeWrongFalsely : Prop := stampBeforeRow.holds Try.pinned (OpenSpec.ofChange stampBeforeWrong)

/- THE SECOND FORM. 'bulk': how many values and letters a reading holds, each counted each time it is reached (what is shared counts as often as it is met; a slice's spare places count too). A statement '..UptoSaid' is the law's where the arguments, and the package variables that the reading takes, are together of bulk at most 1048576: NARROWER than '..Said'. Prove '..Said' where nothing that the law and all that it calls make is longer than what came in: it says more and counts as full. Else prove '..UptoSaid'. A law counts once. -/
mutual
def uptoBulk {H : Type} : DataW H → Nat
  | .lit (.string bytes) => bytes.length + 1
  | .lit _ => 1
  | .nil => 1
  | .ptr d => uptoBulk d + 1
  | .slice elems spare => uptoBulkAll elems + uptoBulkAll spare + 1
  | .agg parts => uptoBulkAll parts + 1
  | .iface _ d => uptoBulk d + 1
  | .map entries => uptoBulkEntries entries + 1
  | .held _ => 1
def uptoBulkAll {H : Type} : List (DataW H) → Nat
  | [] => 0
  | d :: r => uptoBulk d + uptoBulkAll r
def uptoBulkEntries {H : Type} : List (Lit × DataW H) → Nat
  | [] => 0
  | x :: r => uptoBulkEntry x + uptoBulkEntries r
def uptoBulkEntry {H : Type} : Lit × DataW H → Nat
  | (.string bytes, d) => bytes.length + uptoBulk d + 1
  | (_, d) => uptoBulk d + 1
 end
def uptoSmall : (H : Type) → List (DataW H) → Bool := fun _ ds => decide (uptoBulkAll ds ≤ 1048576)
def OpenSpec.upto (s : _root_.Go.ChangeSpec) : _root_.Go.OpenSpec := { _root_.Go.OpenSpec.ofChange s with cond := some uptoSmall }

/-- 'revetmentlaw.StampRights', WHERE WHAT IT READS IS OF BULK AT MOST 1048576: true; the input reads as it did. -/
def stampRightsUptoRow : OpenClaim := { program := "ytncdmineepagpaa", sum := "1e313d459abc4496a92fab73712237f068c81be3b9e574170c47dbac514f1621", func := "revetment/revetmentlaw.StampRights", spec := "stampRights", apart := false, narrowed := true }
def StampRightsUptoSaid : Prop := stampRightsUptoRow.holds Try.pinned (OpenSpec.upto stampRightsSpec)

/-- 'revetmentlaw.StampBefore', WHERE WHAT IT READS IS OF BULK AT MOST 1048576: true; the input reads as it did. -/
def stampBeforeUptoRow : OpenClaim := { program := "ytncdmineepagpaa", sum := "1e313d459abc4496a92fab73712237f068c81be3b9e574170c47dbac514f1621", func := "revetment/revetmentlaw.StampBefore", spec := "stampBefore", apart := false, narrowed := true }
def StampBeforeUptoSaid : Prop := stampBeforeUptoRow.holds Try.pinned (OpenSpec.upto stampBeforeSpec)

end Rows
end Go.Proofs.Ytncdmineepagpaa
