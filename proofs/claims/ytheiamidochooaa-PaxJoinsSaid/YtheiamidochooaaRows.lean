/-
  No cell of these rows narrows 'for every input' (looked for: loops, veiled, ifaces, maps, wideKeys, modest, calm, conditions, laid).
  DERIVED. THE GIVEN ROWS OF THIS SEAT. 3 by the template 'for every input the law returns true; each argument reads behind the call as it read before'; 0 by the template 'total and deterministic' (their statements: YtheiamidochooaaTotals.lean).
  GIVEN WITH THE SEED: the statements are not yours to turn. If you find one false, say at which input.
  Laid BY PROGRAM, IN A SANDBOX (cutbox-rows.mjs): the forced cells as the released guide's own fill.sh prints them over the translation 88baa404edcb4039… (all of the seat's roots in one cut). By AI agents, Wed Nov 11 2026. No macro, syntax, notation, axiom, sorry.
-/
import Derived.Test.YtheiamidochooaaChecked
import GoSem.Claim
import GoSem.ClaimJoined
import GoSem.ClaimMapViews
import Derived.JoinedTies
import Derived.KernelRfl
namespace Go.Proofs.Ytheiamidochooaa
/- THE CELL 'sum', in the pinned program and in every row, IS THE sha256 OF THE DUMP (.gsa) THAT YtheiamidochooaaProg.lean LOADS. Nothing in Lean hashes anything: it is a label: what it is worth is what the hold of that sum in a sandbox is worth. -/
noncomputable def Try.pinned : Pinned := { name := "ytheiamidochooaa", sum := "88baa404edcb403995309bf651e1bd15a3764f843c60cb702ab483f0190ca357", checked := Try.checked }
namespace Rows
def none {H : Type} : Left H := { results := [], args := [] }

/-- 'revetmentlaw.PaxRights': WHATEVER THE INPUT: true; the input reads as it did. -/
def paxRightsSpec : ChangeSpec := { name := "paxRights", fn := fun _ => fun
  | [d] => { results := [.lit (.bool true)], args := [d] }
  | _ => none }
def paxRightsRow : OpenClaim := { program := "ytheiamidochooaa", sum := "88baa404edcb403995309bf651e1bd15a3764f843c60cb702ab483f0190ca357", func := "revetment/revetmentlaw.PaxRights", spec := "paxRights", inPlace := ["internal/bytealg.IndexByteString", "internal/bytealg.IndexString"], named := ["internal/bytealg.MaxLen"], apart := false }
def PaxRightsSaid : Prop := paxRightsRow.holds Try.pinned (OpenSpec.ofChange paxRightsSpec)

/-- ITS FALSE NEIGHBOUR: 'it returns false'. Refute it at one input. -/
def paxRightsWrong : ChangeSpec := { name := "paxRights", fn := fun _ => fun
  | [d] => { results := [.lit (.bool false)], args := [d] }
  | _ => none }
def PaxRightsWrongFalsely : Prop := paxRightsRow.holds Try.pinned (OpenSpec.ofChange paxRightsWrong)

/-- 'revetmentlaw.PaxJoins': WHATEVER THE INPUT: true; the input reads as it did. -/
def paxJoinsSpec : ChangeSpec := { name := "paxJoins", fn := fun _ => fun
  | [d1, d2, d3] => { results := [.lit (.bool true)], args := [d1, d2, d3] }
  | _ => none }
def paxJoinsRow : OpenClaim := { program := "ytheiamidochooaa", sum := "88baa404edcb403995309bf651e1bd15a3764f843c60cb702ab483f0190ca357", func := "revetment/revetmentlaw.PaxJoins", spec := "paxJoins", inPlace := ["internal/reflectlite.ValueOf", "internal/reflectlite.Swapper", "(internal/reflectlite.Value).Len"], unfollowed := true, recurses := true, apart := false }
def PaxJoinsSaid : Prop := paxJoinsRow.holds Try.pinned (OpenSpec.ofChange paxJoinsSpec)

/-- ITS FALSE NEIGHBOUR: 'it returns false'. Refute it at one input. -/
def paxJoinsWrong : ChangeSpec := { name := "paxJoins", fn := fun _ => fun
  | [d1, d2, d3] => { results := [.lit (.bool false)], args := [d1, d2, d3] }
  | _ => none }
def PaxJoinsWrongFalsely : Prop := paxJoinsRow.holds Try.pinned (OpenSpec.ofChange paxJoinsWrong)

/-- 'revetmentlaw.PaxGets': WHATEVER THE INPUT: true; the input reads as it did. -/
def paxGetsSpec : ChangeSpec := { name := "paxGets", fn := fun _ => fun
  | [d1, d2] => { results := [.lit (.bool true)], args := [d1, d2] }
  | _ => none }
def paxGetsRow : OpenClaim := { program := "ytheiamidochooaa", sum := "88baa404edcb403995309bf651e1bd15a3764f843c60cb702ab483f0190ca357", func := "revetment/revetmentlaw.PaxGets", spec := "paxGets", unfollowed := true, recurses := true, apart := false }
def PaxGetsSaid : Prop := paxGetsRow.holds Try.pinned (OpenSpec.ofChange paxGetsSpec)

/-- ITS FALSE NEIGHBOUR: 'it returns false'. Refute it at one input. -/
def paxGetsWrong : ChangeSpec := { name := "paxGets", fn := fun _ => fun
  | [d1, d2] => { results := [.lit (.bool false)], args := [d1, d2] }
  | _ => none }
def PaxGetsWrongFalsely : Prop := paxGetsRow.holds Try.pinned (OpenSpec.ofChange paxGetsWrong)

/- THE SECOND FORM. 'bulk': how many values and letters a reading holds, each counted each time it is reached (what is shared counts as often as it is met; a slice's spare places count too). A statement '..UptoSaid' is the law's where the arguments, and the package variables that the reading takes, are together of bulk at most 1048576: NARROWER than '..Said'. Prove '..Said' where nothing that the law and all that it calls make is longer than what came in: it says more and counts as full. Else prove '..UptoSaid'. A law counts once. -/
mutual
def uptoBulk {H : Type} : DataW H → Nat
  | .lit (.string bytes) => bytes.length + 1
  | .lit _ => 1
  | .nil => 1
  | .ptr d => uptoBulk d + 1
  | .slice elems spare => uptoBulkAll elems + uptoBulkAll spare + 1
  | .agg parts => uptoBulkAll parts + 1
  | .iface _ d => uptoBulk d + 1
  | .map entries => uptoBulkEntries entries + 1
  | .held _ => 1
def uptoBulkAll {H : Type} : List (DataW H) → Nat
  | [] => 0
  | d :: r => uptoBulk d + uptoBulkAll r
def uptoBulkEntries {H : Type} : List (Lit × DataW H) → Nat
  | [] => 0
  | x :: r => uptoBulkEntry x + uptoBulkEntries r
def uptoBulkEntry {H : Type} : Lit × DataW H → Nat
  | (.string bytes, d) => bytes.length + uptoBulk d + 1
  | (_, d) => uptoBulk d + 1
 end
def uptoSmall : (H : Type) → List (DataW H) → Bool := fun _ ds => decide (uptoBulkAll ds ≤ 1048576)
def OpenSpec.upto (s : _root_.Go.ChangeSpec) : _root_.Go.OpenSpec := { _root_.Go.OpenSpec.ofChange s with cond := some uptoSmall }

/-- 'revetmentlaw.PaxRights', WHERE WHAT IT READS IS OF BULK AT MOST 1048576: true; the input reads as it did. -/
def paxRightsUptoRow : OpenClaim := { program := "ytheiamidochooaa", sum := "88baa404edcb403995309bf651e1bd15a3764f843c60cb702ab483f0190ca357", func := "revetment/revetmentlaw.PaxRights", spec := "paxRights", inPlace := ["internal/bytealg.IndexByteString", "internal/bytealg.IndexString"], named := ["internal/bytealg.MaxLen"], apart := false, narrowed := true }
def PaxRightsUptoSaid : Prop := paxRightsUptoRow.holds Try.pinned (OpenSpec.upto paxRightsSpec)

/-- 'revetmentlaw.PaxJoins', WHERE WHAT IT READS IS OF BULK AT MOST 1048576: true; the input reads as it did. -/
def paxJoinsUptoRow : OpenClaim := { program := "ytheiamidochooaa", sum := "88baa404edcb403995309bf651e1bd15a3764f843c60cb702ab483f0190ca357", func := "revetment/revetmentlaw.PaxJoins", spec := "paxJoins", inPlace := ["internal/reflectlite.ValueOf", "internal/reflectlite.Swapper", "(internal/reflectlite.Value).Len"], unfollowed := true, recurses := true, apart := false, narrowed := true }
def PaxJoinsUptoSaid : Prop := paxJoinsUptoRow.holds Try.pinned (OpenSpec.upto paxJoinsSpec)

/-- 'revetmentlaw.PaxGets', WHERE WHAT IT READS IS OF BULK AT MOST 1048576: true; the input reads as it did. -/
def paxGetsUptoRow : OpenClaim := { program := "ytheiamidochooaa", sum := "88baa404edcb403995309bf651e1bd15a3764f843c60cb702ab483f0190ca357", func := "revetment/revetmentlaw.PaxGets", spec := "paxGets", unfollowed := true, recurses := true, apart := false, narrowed := true }
def PaxGetsUptoSaid : Prop := paxGetsUptoRow.holds Try.pinned (OpenSpec.upto paxGetsSpec)

end Rows
end Go.Proofs.Ytheiamidochooaa
