/- Facts of the whole program that every row asks, and that no row starts a goroutine: reckoned once. -/
import Derived.Test.YtapfkjdkpcgoiaaDoorCards
import Derived.Test.YtapfkjdkpcgoiaaDoorTie
namespace Go.Proofs.YtapfkjdkpcgoiaaDoor.Facts

theorem and1 {a b : Bool} (h : (a && b) = true) : a = true := by cases a <;> simp_all
theorem and2 {a b : Bool} (h : (a && b) = true) : b = true := by cases a <;> simp_all
theorem both : (Tryd.pinned.checked.prog.stopsHeard && Tryd.pinned.checked.prog.mayEnter && (false == Tryd.pinned.checked.prog.liftsFinal) && (true == Tryd.pinned.checked.prog.looks []) && (Tryd.pinned.checked.prog.make == some Rows.headWritesRow.make)) = true := by kernel_rfl
theorem make : (Tryd.pinned.checked.prog.make == some Rows.headWritesRow.make) = true := and2 both
theorem looks : true = Tryd.pinned.checked.prog.looks [] := by simpa using and2 (and1 both)
theorem lifts : (false == Tryd.pinned.checked.prog.liftsFinal) = true := and2 (and1 (and1 both))
theorem enters : Tryd.pinned.checked.prog.mayEnter = true := and2 (and1 (and1 (and1 both)))
theorem heard : Tryd.pinned.checked.prog.stopsHeard = true := and1 (and1 (and1 (and1 both)))
theorem main : Tryd.pinned.checked.prog.mainIs = some (Rows.headWritesCard.stood.harness.1, Rows.headWritesCard.stood.harness.2.toList) := by kernel_rfl
theorem goes : ([Rows.headWritesRow, Rows.headBackRow, Rows.headBentRow, Rows.headNamesRow, Rows.headOneRow].all fun c => !(OpenClaim.goesBy c Tryd.pinned.checked.prog)) = true := by kernel_rfl
theorem goesOf {c : OpenClaim} (h : c ∈ [Rows.headWritesRow, Rows.headBackRow, Rows.headBentRow, Rows.headNamesRow, Rows.headOneRow]) : false = c.goesBy Tryd.pinned.checked.prog := by
  have := List.all_eq_true.1 goes c h
  simpa using this
end Go.Proofs.YtapfkjdkpcgoiaaDoor.Facts
